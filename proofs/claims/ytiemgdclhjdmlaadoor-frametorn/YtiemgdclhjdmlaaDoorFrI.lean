/- Slices of slices that came in; appending bytes, with what else is kept. -/
import Derived.Test.YtiemgdclhjdmlaaDoorFrH
import Derived.Test.YtiemgdclhjdmlaaDoorFrTorn
namespace Go.Proofs.YtiemgdclhjdmlaaDoor
open Go.RowKit
set_option linter.unusedVariables false

/-- a slice of rows of bytes that came in -/
def Rowss (w : World) (a : Option Addr) (len cap : Nat) (A : Nat → Option Addr) (L C : Nat → Nat) (Z : Nat → List Int) : Prop :=
  (a = none ∧ len = 0) ∨ ∃ x, a = some x ∧ len ≤ cap ∧ cap ≤ maxLen ∧ ∀ r, r < cap → w.cell? (x.add r) = some (.slice (A r) (L r) (C r)) ∧ IsRow .u8 w (A r) (L r) (C r) (Z r)
theorem Rowss.none {w : World} : Rowss w none 0 0 (fun _ => Option.none) (fun _ => 0) (fun _ => 0) (fun _ => []) := .inl ⟨rfl, rfl⟩
theorem Rowss.of {w : World} {x : Addr} {len cap : Nat} {A : Nat → Option Addr} {L C : Nat → Nat} {Z : Nat → List Int} {base : Nat} (hl : len ≤ cap) (hm : cap ≤ maxLen)
    (h : ∀ r, r < cap → w.cell? (x.add r) = some (.slice (A r) (L r) (C r)) ∧ L r ≤ C r ∧ C r ≤ maxLen ∧ (Z r).length = C r ∧ (∀ n ∈ Z r, (Lit.int .u8 n).wf = true) ∧ (A r = Option.none → C r = 0) ∧
        ∀ a', A r = some a' → base ≤ a'.block ∧ ∀ c, c < C r → w.cell? (a'.add c) = some (.int .u8 ((Z r).getD c 0))) : Rowss w (some x) len cap A L C Z := by
  refine .inr ⟨x, rfl, hl, hm, fun r hr => ?_⟩
  obtain ⟨h1, h2, h3, h4, h5, h6, h7⟩ := h r hr
  refine ⟨h1, ?_⟩
  cases ha : A r with
  | none =>
    have hc := h6 ha
    left
    exact ⟨rfl, by omega, hc, List.length_eq_zero_iff.1 (by omega)⟩
  | some a' => exact .inr ⟨a', rfl, h2, h3, h4, fun i hi => (h7 a' ha).2 i (by omega), h5⟩
theorem Rowss.at {w : World} {a : Option Addr} {len cap : Nat} {A : Nat → Option Addr} {L C : Nat → Nat} {Z : Nat → List Int} (h : Rowss w a len cap A L C Z) (h0 : 0 < len) :
    ∃ b off, a = some ⟨b, off, Option.none⟩ ∧ len ≤ maxLen ∧ ∀ r, r < len → w.cell? ⟨b, off + r, Option.none⟩ = some (.slice (A r) (L r) (C r)) ∧ IsRow .u8 w (A r) (L r) (C r) (Z r) := by
  rcases h with ⟨_, h⟩ | ⟨⟨b, off, spot⟩, rfl, hl, hm, hr⟩
  · omega
  · have hc := (hr 0 (by omega)).1
    have hspot : spot = Option.none := by simpa [Addr.add] using World.cell?_spot hc
    subst hspot
    refine ⟨b, off, rfl, by omega, fun r hrl => ?_⟩
    have := hr r (by omega)
    rw [Addr.add_lit] at this
    exact this

theorem Own.ownV {w : World} {base : Nat} {v : Value} {bs : List Nat} (h : Own w base v bs) : OwnV w base 5 v (cellsOf bs) := by
  have := h.1
  unfold OwnV
  rw [cellsOf_length]
  exact this

/-- 'append(x, y...)', x the call's own, y any bytes, not nil, with what else is kept -/
theorem wp_append_rowG {w : World} {ops : Array Oper} {rest : List Oper} {o : Oper} {a : Act} {Q : Exit → Act → World → Prop} (hgd : o.guard = none) (s x : Operand)
    (ho : o.op = .call { callee := .builtin .append, args := #[s, x], argTypes := #[42, 42] })
    (base : Nat) (v : Value) (xs : List Nat) (hs : a.eval s = v) (hown : Own w base v xs)
    (b off m c : Nat) (ns : List Nat) (hx : a.eval x = .slice (some ⟨b, off, none⟩) m c) (hr : Row w (some ⟨b, off, none⟩) m ns)
    (hbytes : xs.length + m ≤ 140737488355328) (hbase : base ≤ w.heap.size) (N : Nat) (hN : (xs ++ ns).length = N) (h0 : 0 < N)
    (h : ∀ g cap w', Own w' base (.slice (some ⟨g, 0, none⟩) N cap) (xs ++ ns) → Below base w w' → w.grownBy w' v.ownBlock → wpList Tryd.prog ops Q rest (a.put o.dst (.slice (some ⟨g, 0, none⟩) N cap)) w') : wpList Tryd.prog ops Q (o :: rest) a w := by
  obtain ⟨i0, hi, hz0, hz1, hz2⟩ := info_parts Tryd.info5
  have hlen := hr.1
  refine wpList_append_own w hgd s x 42 ho base 5 i0 (.int .u8 0) 1 1 Tryd.underlying42 hi hz0 hz1 hz2 rfl (by decide) v _ _ hs hown.1 ⟨b, off, none⟩ m c (cellsOf ns) hx (by simp [cellsOf]; omega) (cellsOf_row hr) cellsOf_one (by unfold maxLen; omega) (by omega) hbase ?_
  intro v' w' h1 h2 _
  have hO : Own w' base v' (xs ++ ns) := by
    refine ⟨?_, ?_⟩
    · rw [cellsOf_append, List.length_append, hlen]
      exact h1
    · intro y hy
      rcases List.mem_append.1 hy with h3 | h3
      · exact hown.2 y h3
      · exact hr.2.1 y h3
  obtain ⟨g, n, cap, rfl, hn, _, _, _, _⟩ := hO.form (by intro h3; rw [h3] at hN; simp at hN; omega)
  obtain rfl : n = N := by omega
  exact h g cap w' hO ((Below.refl _ _).grown h2 hbase hown.block) h2
end Go.Proofs.YtiemgdclhjdmlaaDoor
