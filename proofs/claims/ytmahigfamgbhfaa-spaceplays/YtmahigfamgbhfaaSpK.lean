/- The law's own space: how a key's versions are set, as lists; rows that a call has made. -/
import Derived.Test.YtmahigfamgbhfaaSpJ
import Derived.Shelf.SlSorted.Search
namespace Go.Proofs.Ytmahigfamgbhfaa
open Go.RowKit Go.Maps
set_option linter.unusedVariables false

def setStep (key : ByteArray) (l : List Ver) (st : List LRow × Bool) (r : LRow) : List LRow × Bool :=
  let st1 := if (!st.2 && !Op.bytesLess r.1.toList key.toList) = true then (st.1 ++ [(key, l)], true) else st
  if r.1.toList = key.toList then st1 else (st1.1 ++ [r], st1.2)
def setSt (key : ByteArray) (l : List Ver) (L : List LRow) : List LRow × Bool := L.foldl (setStep key l) ([], decide (l.length = 0))
/-- a key has these versions; none: it is not there -/
def setL (L : List LRow) (key : ByteArray) (l : List Ver) : List LRow := if (setSt key l L).2 = true then (setSt key l L).1 else (setSt key l L).1 ++ [(key, l)]
def rrow (L : List LRow) (i : Nat) : LRow := L[i]?.getD (⟨#[]⟩, [])
theorem setSt_succ (key : ByteArray) (l : List Ver) (L : List LRow) (k : Nat) (h : k < L.length) : setSt key l (L.take (k + 1)) = setStep key l (setSt key l (L.take k)) (rrow L k) := by
  have e : L.take (k + 1) = L.take k ++ [rrow L k] := by
    rw [rrow, List.getElem?_eq_getElem h, List.take_succ_eq_append_getElem h]
    rfl
  rw [e, setSt, List.foldl_append]
  rfl
theorem setStep_length (key : ByteArray) (l : List Ver) (st : List LRow × Bool) (r : LRow) : (setStep key l st r).1.length + (if (setStep key l st r).2 = true then 0 else 1) ≤ st.1.length + (if st.2 = true then 0 else 1) + 1 := by
  obtain ⟨o, d⟩ := st
  unfold setStep
  cases d
  · cases h1 : Op.bytesLess r.1.toList key.toList
    · by_cases h2 : r.1.toList = key.toList <;> simp [h2]
    · by_cases h2 : r.1.toList = key.toList <;> simp [h2]
  · by_cases h2 : r.1.toList = key.toList <;> simp [h2]
theorem setSt_length (key : ByteArray) (l : List Ver) (L : List LRow) : (setSt key l L).1.length + (if (setSt key l L).2 = true then 0 else 1) ≤ L.length + 1 := by
  have gen : ∀ (L : List LRow) (st : List LRow × Bool), (L.foldl (setStep key l) st).1.length + (if (L.foldl (setStep key l) st).2 = true then 0 else 1) ≤ st.1.length + (if st.2 = true then 0 else 1) + L.length := by
    intro L
    induction L with
    | nil => intro st; exact Nat.le_refl _
    | cons r L ih =>
      intro st
      rw [List.foldl_cons]
      have h1 := ih (setStep key l st r)
      have h2 := setStep_length key l st r
      simp only [List.length_cons]
      omega
  have := gen L ([], decide (l.length = 0))
  unfold setSt
  refine Nat.le_trans this ?_
  by_cases h : l.length = 0 <;> simp [h] <;> omega
theorem setL_length (L : List LRow) (key : ByteArray) (l : List Ver) : (setL L key l).length ≤ L.length + 1 := by
  have := setSt_length key l L
  unfold setL
  split
  · rename_i h; rw [if_pos h] at this; omega
  · rename_i h; rw [if_neg h] at this; simp; omega

def cellsR (ps : List (ByteArray × Value)) : List Value := ps.flatMap fun p => [.string p.1, p.2]
theorem cellsR_append (ps qs : List (ByteArray × Value)) : cellsR (ps ++ qs) = cellsR ps ++ cellsR qs := by simp [cellsR]
theorem cellsR_length (ps : List (ByteArray × Value)) : (cellsR ps).length = ps.length * 2 := by
  induction ps with
  | nil => rfl
  | cons p ps ih => rw [cellsR, List.flatMap_cons, List.length_append]; show 2 + (cellsR ps).length = _; rw [ih, List.length_cons]; omega
theorem cellsR_at (ps : List (ByteArray × Value)) : ∀ i p, ps[i]? = some p → (cellsR ps)[i * 2]? = some (.string p.1) ∧ (cellsR ps)[i * 2 + 1]? = some p.2 := by
  induction ps with
  | nil => intro i p h; simp at h
  | cons q ps ih =>
    intro i p h
    have e : cellsR (q :: ps) = [.string q.1, q.2] ++ cellsR ps := by simp [cellsR]
    rw [e]
    cases i with
    | zero => simp at h; subst h; simp
    | succ i =>
      have := ih i p (by simpa using h)
      rw [show (i + 1) * 2 = i * 2 + 2 by omega]
      simpa using this
/-- a slice of rows that the call itself has made; the versions lie where they lay at its beginning -/
def ROwn (w0 w : World) (base : Nat) (v : Value) (L : List LRow) : Prop := ∃ ps : List (ByteArray × Value), w.ownsRow base 66 2 v ps.length (cellsR ps) ∧ ps.length = L.length ∧ ∀ i p, ps[i]? = some p → p.1 = rkey L i ∧ Rf w0 p.2 (rvers L i)
theorem ROwn.nil (w0 w : World) (base : Nat) : ROwn w0 w base (.slice none 0 0) [] := ⟨[], World.ownsRow_nil _ _ _ _, rfl, by simp⟩
theorem ROwn.later {w0 w wx : World} {base : Nat} {v : Value} {L : List LRow} (h : ROwn w0 w base v L) (hb : Below w.heap.size w wx) : ROwn w0 wx base v L := by
  obtain ⟨ps, ⟨hl, h⟩, h2⟩ := h
  refine ⟨ps, ⟨hl, ?_⟩, h2⟩
  rcases h with h | ⟨g, cap, cur, hv, hg, hh, hn⟩
  · exact .inl h
  · exact .inr ⟨g, cap, cur, hv, hg, by rw [hb.block g (by have := Array.getElem?_eq_some_iff.1 hh; exact this.1)]; exact hh, hn⟩
theorem ROwn.block {w0 w : World} {base : Nat} {v : Value} {L : List LRow} (h : ROwn w0 w base v L) : ∀ k, v.ownBlock = some k → base ≤ k := by
  obtain ⟨ps, h1, _⟩ := h
  exact fun k hk => (World.ownsRow.lt h1 k hk).1
theorem ROwn.lt {w0 w : World} {base : Nat} {v : Value} {L : List LRow} (h : ROwn w0 w base v L) : ∀ k, v.ownBlock = some k → k < w.heap.size := by
  obtain ⟨ps, h1, _⟩ := h
  exact fun k hk => (World.ownsRow.lt h1 k hk).2
theorem ROwn.row {w0 w : World} {base : Nat} {v : Value} {L : List LRow} (h : ROwn w0 w base v L) (hb : Below w0.heap.size w0 w) (hL : L.length ≤ 1000000) : ∃ a k c, v = .slice a k c ∧ RRow w a k L ∧ (a = none → c = 0) := by
  obtain ⟨ps, ⟨hl, h⟩, h2, h3⟩ := h
  rcases h with ⟨rfl, hn⟩ | ⟨g, cap, cur, rfl, hg, hh, hn, hm, hs, ht⟩
  · have e : L = [] := List.length_eq_zero_iff.1 (by omega)
    exact ⟨none, 0, 0, rfl, ⟨by rw [e]; rfl, by omega, .inl e⟩, fun _ => rfl⟩
  · refine ⟨_, _, _, rfl, ⟨h2.symm, by omega, .inr ⟨g, 0, rfl, fun i hi => ?_⟩⟩, by simp⟩
    obtain ⟨p, hp⟩ : ∃ p, ps[i]? = some p := ⟨ps[i], List.getElem?_eq_getElem hi⟩
    obtain ⟨c0, c1⟩ := cellsR_at ps i p hp
    obtain ⟨k1, k2⟩ := h3 i p hp
    have get : ∀ (j : Nat) (u : Value), (cellsR ps)[j]? = some u → cur[j]? = some u := by
      intro j u hj
      have hlt := (List.getElem?_eq_some_iff.1 hj).1
      rw [cellsR_length] at hlt
      rw [← ht, List.getElem?_take_of_lt hlt, Array.getElem?_toList] at hj
      exact hj
    rw [Nat.zero_add]
    exact ⟨by rw [← k1]; exact cell_of_heap hh (get _ _ c0), p.2, cell_of_heap hh (get _ _ c1), k2.later hb⟩
theorem Try.info_66 : (Try.prog.info? 66).map (fun i => (i.zero, i.size, i.bytes)) = some (some (.agg #[.string ⟨#[]⟩, .slice none 0 0]), 2, 40) := by kernel_rfl
theorem wp_append_lrow {w : World} {ops : Array Oper} {rest : List Oper} {o : Oper} {a : Act} {Q : Exit → Act → World → Prop} (hgd : o.guard = none) (s x : Operand)
    (ho : o.op = .call { callee := .builtin .append, args := #[s, x], argTypes := #[57, 57] })
    (w0 : World) (base : Nat) (v : Value) (L : List LRow) (hs : a.eval s = v) (hown : ROwn w0 w base v L)
    (g c : Nat) (key : ByteArray) (ua : Option Addr) (uk uc : Nat) (l : List Ver) (hx : a.eval x = .slice (some ⟨g, 0, none⟩) 1 c) (hc : w.heap[g]? = some (.cells #[.string key, .slice ua uk uc] 66)) (hu : Rf w0 (.slice ua uk uc) l)
    (hmany : L.length ≤ 1000000000) (hbase : base ≤ w.heap.size)
    (h : ∀ v' w', ROwn w0 w' base v' (L ++ [(key, l)]) → Below base w w' → w.grownBy w' v.ownBlock → wpList Try.prog ops Q rest (a.put o.dst v') w') : wpList Try.prog ops Q (o :: rest) a w := by
  obtain ⟨i0, hi, hz0, hz1, hz2⟩ := info_parts Try.info_66
  obtain ⟨ps, h1, h2, h3⟩ := hown
  refine wpList_append_own w hgd s x 57 ho base 66 i0 _ 2 40 Try.underlying57 hi hz0 hz1 hz2 rfl (by decide) v _ _ hs h1 ⟨g, 0, none⟩ 1 c [.string key, .slice ua uk uc] hx rfl ?_ (by simp [Value.oneCell']) (by unfold maxLen; omega) (by omega) hbase ?_
  · intro j y hj
    rw [Addr.add_lit]
    match j, hj with
    | 0, hj => exact cell_of_heap hc (by simpa using hj)
    | 1, hj => exact cell_of_heap hc (by simpa using hj)
    | j + 2, hj => simp at hj
  · intro v' w' k1 k2 _
    refine h v' w' ⟨ps ++ [(key, .slice ua uk uc)], ?_, by simp [h2], fun i p hp => ?_⟩ ((Below.refl _ _).grown k2 hbase (fun k hk => (World.ownsRow.lt h1 k hk).1)) k2
    · rw [cellsR_append, List.length_append]
      exact k1
    · rcases Nat.lt_or_ge i ps.length with hlt | hge
      · rw [List.getElem?_append_left hlt] at hp
        obtain ⟨q1, q2⟩ := h3 i p hp
        have e : (L ++ [(key, l)])[i]? = L[i]? := List.getElem?_append_left (by omega)
        exact ⟨by rw [q1]; simp [rkey, e], by simpa [rvers, e] using q2⟩
      · rw [List.getElem?_append_right hge] at hp
        have hi0 : i - ps.length = 0 := by
          have := (List.getElem?_eq_some_iff.1 hp).1
          simp at this
          omega
        rw [hi0] at hp
        simp at hp
        subst hp
        have e : (L ++ [(key, l)])[i]? = some (key, l) := by
          rw [List.getElem?_append_right (by omega), show i - L.length = 0 by omega]
          rfl
        exact ⟨by simp [rkey, e], by simpa [rvers, e] using hu⟩
end Go.Proofs.Ytmahigfamgbhfaa
