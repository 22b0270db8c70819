/- Rows of records in memory. -/
import Derived.Test.YtmlpneiadkngaaaDoorFrC
import Derived.Test.YtmlpneiadkngaaaDoorVec
namespace Go.Proofs.YtmlpneiadkngaaaDoor
open Go.RowKit
set_option linter.unusedVariables false

/-- 'append(x, y)', with what else is kept -/
theorem wp_append_oneG (t e : TypeId) (z : Value) (bytes : Nat) (hu : Tryd.prog.underlying t = some (.slice e)) (hinfo : (Tryd.prog.info? e).map (fun i => (i.zero, i.size, i.bytes)) = some (some z, 1, bytes)) (hz : z.cells.size = 1)
    {w : World} {ops : Array Oper} {rest : List Oper} {o : Oper} {a : Act} {Q : Exit → Act → World → Prop} (hgd : o.guard = none) (s x : Operand)
    (ho : o.op = .call { callee := .builtin .append, args := #[s, x], argTypes := #[t, t] })
    (base : Nat) (v : Value) (xs : List Value) (hs : a.eval s = v) (hown : OwnV w base e v xs)
    (ad : Addr) (c : Nat) (u : Value) (hx : a.eval x = .slice (some ad) 1 c) (hc : w.cell? ad = some u) (h1 : u.oneCell' = true)
    (hbytes : (xs.length + 1) * bytes ≤ 140737488355328) (hmany : xs.length ≤ 140737488355328) (hbase : base ≤ w.heap.size)
    (h : ∀ v' w', OwnV w' base e v' (xs ++ [u]) → Below base w w' → w.grownBy w' v.ownBlock → wpList Tryd.prog ops Q rest (a.put o.dst v') w') : wpList Tryd.prog ops Q (o :: rest) a w := by
  obtain ⟨i0, hi, hz0, hz1, hz2⟩ := info_parts hinfo
  refine wpList_append_own w hgd s x t ho base e i0 z 1 bytes hu hi hz0 hz1 hz2 hz (by decide) v _ _ hs hown ad 1 c [u] hx (by simp) ?_ (by simpa using h1) (by unfold maxLen; omega) hbytes hbase ?_
  · intro j y hj
    cases j with
    | zero => simp at hj; subst hj; rw [show ad.add 0 = ad from by simp [Addr.add]]; exact hc
    | succ j => simp at hj
  · intro v' w' h1 h2 _
    refine h v' w' ?_ ((Below.refl _ _).grown h2 hbase (OwnV.block hown)) h2
    show w'.ownsRow base e 1 v' (xs ++ [u]).length (xs ++ [u])
    rw [List.length_append]
    exact h1

/-- a slice of another kind is kept when one grows -/
theorem kept_tag {w w' : World} {base base' n : Nat} {e e' : TypeId} {v v' : Value} {xs xs' : List Value} (h : w.ownsRow base e 1 v n xs) (hv : OwnV w base' e' v' xs') (hg : w.grownBy w' v'.ownBlock) (he : e ≠ e') : w'.ownsRow base e 1 v n xs := by
  refine h.kept hg ?_
  rcases h.2 with ⟨rfl, _⟩ | ⟨g, cap, cur, rfl, hb, hgg, _⟩
  · left; rfl
  · right
    intro hcon
    rcases hv.2 with ⟨rfl, _⟩ | ⟨g', cap', cur', rfl, hb', hgg', _⟩
    · simp [Value.ownBlock] at hcon
    · simp only [Value.ownBlock, Option.some.injEq] at hcon
      subst hcon
      rw [hgg] at hgg'
      simp only [Option.some.injEq, Obj.cells.injEq] at hgg'
      exact he hgg'.2.1
theorem Own.kept {w w' : World} {base base' : Nat} {e' : TypeId} {v v' : Value} {bs : List Nat} {xs' : List Value} (h : Own w base v bs) (hv : OwnV w base' e' v' xs') (hg : w.grownBy w' v'.ownBlock) (he : (5 : TypeId) ≠ e') : Own w' base v bs := ⟨kept_tag h.1 hv hg he, h.2⟩

/-- a record, as an element of a slice of rows lies -/
def Rec1 (w : World) (x : Value) (r : List Nat) : Prop := ∃ a n cap, x = .slice a n cap ∧ Row w a n r
theorem Rec1.later {w wx : World} {x : Value} {r : List Nat} (h : Rec1 w x r) (hb : Below w.heap.size w wx) : Rec1 wx x r := by
  obtain ⟨a, n, cap, h1, h2⟩ := h
  exact ⟨a, n, cap, h1, h2.later hb⟩
/-- a slice of rows of bytes -/
def Recs (w : World) (v : Value) (rs : List (List Nat)) : Prop :=
  ∃ base vs, OwnV w base 22 v vs ∧ vs.length = rs.length ∧ ∀ (i : Nat) x r, vs[i]? = some x → rs[i]? = some r → Rec1 w x r
theorem Recs.later {w wx : World} {v : Value} {rs : List (List Nat)} (h : Recs w v rs) (hb : Below w.heap.size w wx) : Recs wx v rs := by
  obtain ⟨base, vs, h1, h2, h3⟩ := h
  exact ⟨base, vs, h1.later hb, h2, fun i x r hx hr => (h3 i x r hx hr).later hb⟩

/-- .. that the call has made, the rows too -/
def RecO (w : World) (base : Nat) (v : Value) (rs : List (List Nat)) : Prop :=
  ∃ vs, OwnV w base 22 v vs ∧ vs.length = rs.length ∧ ∀ (i : Nat) x r, vs[i]? = some x → rs[i]? = some r → Own w base x r
theorem RecO.later {w wx : World} {base : Nat} {v : Value} {rs : List (List Nat)} (h : RecO w base v rs) (hb : Below w.heap.size w wx) : RecO wx base v rs := by
  obtain ⟨vs, h1, h2, h3⟩ := h
  exact ⟨vs, h1.later hb, h2, fun i x r hx hr => (h3 i x r hx hr).later hb⟩
theorem RecO.recs {w : World} {base : Nat} {v : Value} {rs : List (List Nat)} (h : RecO w base v rs) : Recs w v rs := by
  obtain ⟨vs, h1, h2, h3⟩ := h
  refine ⟨base, vs, h1, h2, fun i x r hx hr => ?_⟩
  obtain ⟨a, n, cap, e, hrow, _⟩ := (h3 i x r hx hr).slice
  exact ⟨a, n, cap, e, hrow⟩
theorem snoc_at {α : Type} {l : List α} {y x : α} {i : Nat} (h : (l ++ [y])[i]? = some x) : (i < l.length ∧ l[i]? = some x) ∨ (i = l.length ∧ x = y) := by
  rcases Nat.lt_trichotomy i l.length with hi | hi | hi
  · rw [List.getElem?_append_left hi] at h
    exact .inl ⟨hi, h⟩
  · subst hi
    rw [List.getElem?_append_right (Nat.le_refl _)] at h
    simp at h
    exact .inr ⟨rfl, h.symm⟩
  · rw [List.getElem?_append_right (by omega)] at h
    obtain ⟨d, hd⟩ : ∃ d, i - l.length = d + 1 := ⟨i - l.length - 1, by omega⟩
    rw [hd] at h
    simp at h
end Go.Proofs.YtmlpneiadkngaaaDoor
