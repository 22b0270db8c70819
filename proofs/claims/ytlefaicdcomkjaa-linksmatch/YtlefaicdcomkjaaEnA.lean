/- Transactions in memory; as the program's, as the document's: contracts. -/
import Derived.Test.YtlefaicdcomkjaaEnG
namespace Go.Proofs.Ytlefaicdcomkjaa
open Go Go.RowKit
set_option linter.unusedVariables false
set_option linter.unusedSimpArgs false

/-- a read, a write -/
structure Rdv where
  key : ByteArray
  num : Int
structure Wrv where
  key : ByteArray
  val : ByteArray
  gone : Bool
def Rdv.cells (r : Rdv) : List Value := [.string r.key, .int .u64 r.num]
def Wrv.cells (r : Wrv) : List Value := [.string r.key, .string r.val, .bool r.gone]
theorem Rdv.one (l : List Rdv) : ∀ u ∈ l.flatMap Rdv.cells, u.oneCell' = true := by
  intro u hu
  obtain ⟨r, -, hu⟩ := List.mem_flatMap.1 hu
  simp only [Rdv.cells, List.mem_cons, List.not_mem_nil, or_false] at hu
  rcases hu with rfl | rfl <;> rfl
theorem Wrv.one (l : List Wrv) : ∀ u ∈ l.flatMap Wrv.cells, u.oneCell' = true := by
  intro u hu
  obtain ⟨r, -, hu⟩ := List.mem_flatMap.1 hu
  simp only [Wrv.cells, List.mem_cons, List.not_mem_nil, or_false] at hu
  rcases hu with rfl | rfl | rfl <;> rfl
/-- reads that lie somewhere, as a slice's elements -/
def Rds (w : World) (a : Option Addr) (n : Nat) (S : Nat → Rdv) : Prop :=
  n ≤ maxLen ∧ (n = 0 ∨ ∃ b off, a = some ⟨b, off, none⟩ ∧ ∀ i, i < n → w.cell? ⟨b, off + i * 2, none⟩ = some (.string (S i).key) ∧ w.cell? ⟨b, off + i * 2 + 1, none⟩ = some (.int .u64 (S i).num))
def Wrs (w : World) (a : Option Addr) (n : Nat) (S : Nat → Wrv) : Prop :=
  n ≤ maxLen ∧ (n = 0 ∨ ∃ b off, a = some ⟨b, off, none⟩ ∧ ∀ i, i < n → w.cell? ⟨b, off + i * 3, none⟩ = some (.string (S i).key) ∧ w.cell? ⟨b, off + i * 3 + 1, none⟩ = some (.string (S i).val) ∧ w.cell? ⟨b, off + i * 3 + 2, none⟩ = some (.bool (S i).gone))
theorem Rds.later {w wx : World} {a : Option Addr} {n : Nat} {S : Nat → Rdv} (h : Rds w a n S) (hb : Below w.heap.size w wx) : Rds wx a n S := by
  refine ⟨h.1, ?_⟩
  rcases h.2 with h | ⟨b, off, e, hc⟩
  · exact .inl h
  · exact .inr ⟨b, off, e, fun i hi => ⟨cell_later hb (hc i hi).1, cell_later hb (hc i hi).2⟩⟩
theorem Wrs.later {w wx : World} {a : Option Addr} {n : Nat} {S : Nat → Wrv} (h : Wrs w a n S) (hb : Below w.heap.size w wx) : Wrs wx a n S := by
  refine ⟨h.1, ?_⟩
  rcases h.2 with h | ⟨b, off, e, hc⟩
  · exact .inl h
  · exact .inr ⟨b, off, e, fun i hi => ⟨cell_later hb (hc i hi).1, cell_later hb (hc i hi).2.1, cell_later hb (hc i hi).2.2⟩⟩
theorem Rds.at {w : World} {a : Option Addr} {n : Nat} {S : Nat → Rdv} (h : Rds w a n S) (hn : 0 < n) : ∃ b off, a = some ⟨b, off, none⟩ ∧ ∀ i, i < n → w.cell? ⟨b, off + i * 2, none⟩ = some (.string (S i).key) ∧ w.cell? ⟨b, off + i * 2 + 1, none⟩ = some (.int .u64 (S i).num) := by
  rcases h.2 with h | h
  · omega
  · exact h
theorem Wrs.at {w : World} {a : Option Addr} {n : Nat} {S : Nat → Wrv} (h : Wrs w a n S) (hn : 0 < n) : ∃ b off, a = some ⟨b, off, none⟩ ∧ ∀ i, i < n → w.cell? ⟨b, off + i * 3, none⟩ = some (.string (S i).key) ∧ w.cell? ⟨b, off + i * 3 + 1, none⟩ = some (.string (S i).val) ∧ w.cell? ⟨b, off + i * 3 + 2, none⟩ = some (.bool (S i).gone) := by
  rcases h.2 with h | h
  · omega
  · exact h
/-- the first ten -/
def tenR (n : Nat) (S : Nat → Rdv) : List Rdv := (List.range (min n 10)).map S
def tenW (n : Nat) (S : Nat → Wrv) : List Wrv := (List.range (min n 10)).map S
theorem tenR_next (n : Nat) (S : Nat → Rdv) (h : n < 10) : tenR (n + 1) S = tenR n S ++ [S n] := by
  unfold tenR
  rw [show min n 10 = n by omega, show min (n + 1) 10 = n + 1 by omega, List.range_succ]
  simp
theorem tenW_next (n : Nat) (S : Nat → Wrv) (h : n < 10) : tenW (n + 1) S = tenW n S ++ [S n] := by
  unfold tenW
  rw [show min n 10 = n by omega, show min (n + 1) 10 = n + 1 by omega, List.range_succ]
  simp
theorem tenR_full (n : Nat) (S : Nat → Rdv) (h : 10 ≤ n) : tenR (n + 1) S = tenR n S := by
  unfold tenR
  rw [show min n 10 = 10 by omega, show min (n + 1) 10 = 10 by omega]
theorem tenW_full (n : Nat) (S : Nat → Wrv) (h : 10 ≤ n) : tenW (n + 1) S = tenW n S := by
  unfold tenW
  rw [show min n 10 = 10 by omega, show min (n + 1) 10 = 10 by omega]
theorem tenR_length (n : Nat) (S : Nat → Rdv) : (tenR n S).length ≤ 10 := by simp [tenR]; omega
theorem tenW_length (n : Nat) (S : Nat → Wrv) : (tenW n S).length ≤ 10 := by simp [tenW]; omega
theorem Try.info_95 : (Try.prog.info? 95).map (fun i => (i.zero, i.size, i.bytes)) = some (some (.agg #[.string ⟨#[]⟩, .int .u64 0]), 2, 24) := by kernel_rfl
theorem Try.info_98 : (Try.prog.info? 98).map (fun i => (i.zero, i.size, i.bytes)) = some (some (.agg #[.string ⟨#[]⟩, .string ⟨#[]⟩, .bool false]), 3, 40) := by kernel_rfl
theorem Try.info_99 : (Try.prog.info? 99).map (fun i => (i.zero, i.size, i.bytes)) = some (some (.agg #[.string ⟨#[]⟩, .int .u64 0]), 2, 24) := by kernel_rfl
theorem Try.info_100 : (Try.prog.info? 100).map (fun i => (i.zero, i.size, i.bytes)) = some (some (.agg #[.string ⟨#[]⟩, .string ⟨#[]⟩, .bool false]), 3, 40) := by kernel_rfl
theorem five_set3 {w : World} {g : Nat} {a b c d e x : Value} {t : TypeId} (h : w.heap[g]? = some (.cells #[a, b, c, d, e] t (0, 0))) : (w.setCell ⟨g, 3, none⟩ x).heap[g]? = some (.cells #[a, b, c, x, e] t (0, 0)) := heap_setCell_same _ _ _ _ _ _ h
theorem five_set4 {w : World} {g : Nat} {a b c d e x : Value} {t : TypeId} (h : w.heap[g]? = some (.cells #[a, b, c, d, e] t (0, 0))) : (w.setCell ⟨g, 4, none⟩ x).heap[g]? = some (.cells #[a, b, c, d, x] t (0, 0)) := heap_setCell_same _ _ _ _ _ _ h
/-- an append to a slice that was made, then stored into a variable beside it: memory -/
theorem put_beside {w w1 : World} {base g : Nat} {e t : TypeId} {n m k : Nat} {xs ys : List Value} {v v' : Value} {cs : Array Value} (j : Nat) (hg : w.heap[g]? = some (.cells cs t (0, 0))) (ht : t ≠ e) (ho : w.ownsRow base e n v m xs) (hgr : w.grownBy w1 v.ownBlock) (ho1 : w1.ownsRow base e n v' k ys) :
    w1.heap[g]? = some (.cells cs t (0, 0)) ∧ (w1.setCell ⟨g, j, none⟩ v').ownsRow base e n v' k ys := by
  have hne : some g ≠ v.ownBlock := by
    intro e1
    rcases ho.2 with ⟨rfl, _⟩ | ⟨q1, q2, q3, rfl, q5, q6, _⟩
    · cases e1
    · simp only [Value.ownBlock, Option.some.injEq] at e1
      subst e1
      rw [hg] at q6
      simp only [Option.some.injEq, Obj.cells.injEq] at q6
      exact ht q6.2.1
  have h1 := (hgr.block g (Array.getElem?_eq_some_iff.1 hg).1 hne).trans hg
  refine ⟨h1, ho1.1, ?_⟩
  rcases ho1.2 with h2 | ⟨q1, q2, q3, q4, q5, q6, q7⟩
  · exact .inl h2
  · refine .inr ⟨q1, q2, q3, q4, q5, ?_, q7⟩
    rw [Below.heap_setCell _ _ _ _ (fun e1 => ?_)]
    · exact q6
    · simp only at e1
      rw [e1, h1] at q6
      simp only [Option.some.injEq, Obj.cells.injEq] at q6
      exact ht q6.2.1
theorem owns_tag {w : World} {base : Nat} {e : TypeId} {n : Nat} {v : Value} {m : Nat} {xs : List Value} (h : w.ownsRow base e n v m xs) : ∀ k, v.ownBlock = some k → tagOf w k = some e := by
  intro k hk
  rcases h.2 with ⟨rfl, _⟩ | ⟨g, cap, cur, rfl, hg, hh, _⟩
  · cases hk
  · simp only [Value.ownBlock, Option.some.injEq] at hk
    subst hk
    exact tagOf_heap hh
end Go.Proofs.Ytlefaicdcomkjaa
