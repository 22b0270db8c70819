/- A log's areas: heads, which areas are whole: plain lists. -/
import Derived.Test.YtmlpneiadkngaaaDoorOctMath
import Derived.Test.YtmlpneiadkngaaaDoorFrMath
namespace Go.Proofs.YtmlpneiadkngaaaDoor.Wa

def most : Nat := 18446744073709551615
/-- a generation's head -/
def head (g n : Nat) : List Nat := 71 :: Oct.put g ++ Oct.put n
/-- both numbers of a head -/
def two (bs : List Nat) : (Nat × Nat) × Option (List Nat) :=
  (((Oct.atMost most (some bs)).1, (Oct.atMost most (Oct.atMost most (some bs)).2).1), (Oct.atMost most (Oct.atMost most (some bs)).2).2)
/-- what a head says -/
def opens : List Nat → Option (Nat × Nat)
  | [] => none
  | x :: l => if x = 71 then (if (two l).2 = some [] then some (two l).1 else none) else none

theorem put_length (n : Nat) : 1 ≤ (Oct.put n).length ∧ (Oct.put n).length ≤ 10 := Oct.putF_len 9 n
theorem put_lt (n : Nat) (h : n < 18446744073709551616) : ∀ x ∈ Oct.put n, x < 256 := Oct.putF_lt 9 n h
theorem head_length (g n : Nat) : 3 ≤ (head g n).length ∧ (head g n).length ≤ 21 := by
  have h1 := put_length g
  have h2 := put_length n
  unfold head
  simp only [List.length_append, List.length_cons]
  omega
theorem head_lt (g n : Nat) (hg : g < 18446744073709551616) (hn : n < 18446744073709551616) : ∀ x ∈ head g n, x < 256 := by
  intro x hx
  unfold head at hx
  rcases List.mem_append.1 hx with h | h
  · rcases List.mem_cons.1 h with h | h
    · omega
    · exact put_lt g hg x h
  · exact put_lt n hn x h
theorem opens_head (g n : Nat) (hg : g < 18446744073709551616) (hn : n < 18446744073709551616) : opens (head g n) = some (g, n) := by
  have h1 : Oct.atMost most (some (Oct.put g ++ Oct.put n)) = (g, some (Oct.put n)) := Oct.atMost_put most g _ hg (by unfold most; omega)
  have h2 : Oct.atMost most (some (Oct.put n)) = (n, some []) := by
    have := Oct.atMost_put most n [] hn (by unfold most; omega)
    simpa using this
  show (if 71 = 71 then (if (two (Oct.put g ++ Oct.put n)).2 = some [] then some (two (Oct.put g ++ Oct.put n)).1 else none) else none) = _
  unfold two
  rw [h1]
  dsimp only
  rw [h2]
  simp

/-- what a whole area has: its generation, its records, how many bytes their frames have -/
def whole (bs : List Nat) (k : Nat) : Option (Nat × List (List Nat) × Nat) :=
  match Fr.recs bs k with
  | [] => none
  | h :: rs => match opens h with
    | none => none
    | some (g, n) => if n ≤ rs.length then some (g, rs, Fr.ends bs k) else none
end Go.Proofs.YtmlpneiadkngaaaDoor.Wa
