/- Texts: what the functions of package octet, and of the law's own answers for it, do with them: contracts. -/
import Derived.Test.YtgpjplpfjghcgaaOctD
import Derived.Lib.AppendStr
namespace Go.Proofs.Ytgpjplpfjghcgaa
open Go.RowKit

theorem str_of (s : ByteArray) : ∃ ts : List Nat, s = str ts ∧ (∀ x ∈ ts, x < 256) ∧ ts.length = s.size := by
  refine ⟨s.data.toList.map UInt8.toNat, ?_, ?_, ?_⟩
  · unfold str
    have : (s.data.toList.map UInt8.toNat).map UInt8.ofNat = s.data.toList := by
      rw [List.map_map]
      conv => rhs; rw [← List.map_id s.data.toList]
      apply List.map_congr_left
      intro x _
      simp
    rw [this]
  · intro x hx
    simp only [List.mem_map] at hx
    obtain ⟨y, _, rfl⟩ := hx
    have := y.toNat_lt
    omega
  · rw [List.length_map, Array.length_toList]; rfl
theorem strCells_str (ts : List Nat) (h : ∀ x ∈ ts, x < 256) : Lib.strCells (str ts) = cellsOf ts := by
  unfold Lib.strCells str cellsOf
  simp only [List.map_map]
  apply List.map_congr_left
  intro x hx
  have := h x hx
  simp [UInt8.toNat_ofNat']
  omega

/-- 'append(x, s...)', x the call's own, s a text -/
theorem wp_append_str {w : World} {ops : Array Oper} {rest : List Oper} {o : Oper} {a : Act} {Q : Exit → Act → World → Prop} (hgd : o.guard = none) (s x : Operand)
    (ho : o.op = .call { callee := .builtin .append, args := #[s, x], argTypes := #[48, 9] })
    (base : Nat) (v : Value) (xs : List Nat) (hs : a.eval s = v) (hown : Own w base v xs) (ts : List Nat) (hx : a.eval x = .string (str ts)) (ht : ∀ x ∈ ts, x < 256)
    (hbytes : xs.length + ts.length ≤ 140737488355328) (hbase : base ≤ w.heap.size)
    (h : ∀ v' w', Own w' base v' (xs ++ ts) → Below base w w' → wpList Try.prog ops Q rest (a.put o.dst v') w') : wpList Try.prog ops Q (o :: rest) a w := by
  obtain ⟨i0, hi, hz0, hz1, hz2⟩ := info_parts Try.info_5
  refine Lib.wpList_append_own_string w hgd s x 48 9 ho base 5 i0 Try.underlying48 Try.underlying9 hi hz0 hz1 hz2 v _ _ hs hown.1 (str ts) hx (by rw [str_size]; unfold maxLen; omega) (by rw [str_size]; omega) hbase ?_
  intro v' w' h1 h2 _
  refine h v' w' ⟨?_, ?_⟩ ((Below.refl _ _).grown h2 hbase hown.block)
  · rw [str_size, strCells_str ts ht, ← cellsOf_append] at h1
    rw [List.length_append]
    exact h1
  · intro y hy
    rcases List.mem_append.1 hy with h3 | h3
    · exact hown.2 y h3
    · exact ht y h3

end Go.Proofs.Ytgpjplpfjghcgaa
