/- The law's own space: what is set in rows that are sorted; a copy of the rows. -/
import Derived.Test.YtmahigfamgbhfaaSpL
import Derived.Sort.Walk0
import Derived.Laws.AppendOwnNone
namespace Go.Proofs.Ytmahigfamgbhfaa
open Go.RowKit Go.Maps
set_option linter.unusedVariables false

def Srt (L : List LRow) : Prop := L.Pairwise fun a b => Op.bytesLess a.1.toList b.1.toList = true
def other (key : ByteArray) (r : LRow) : Bool := !(r.1.toList == key.toList)
theorem less_self (x : List UInt8) : Op.bytesLess x x = false := by
  rw [bytesLess_eq]
  simp
theorem less_ne {a b : List UInt8} (h : Op.bytesLess a b = true) : a ≠ b := fun e => by rw [e, less_self] at h; cases h
theorem less_not {a b : List UInt8} (h : Op.bytesLess a b = true) : Op.bytesLess b a = false := by
  rw [bytesLess_eq] at *
  simp at *
  exact List.le_of_lt h
theorem fold_low (key : ByteArray) (l : List Ver) : ∀ (A : List LRow), (∀ r ∈ A, Op.bytesLess r.1.toList key.toList = true) → ∀ o d, A.foldl (setStep key l) (o, d) = (o ++ A, d)
  | [], _, o, d => by simp
  | r :: A, h, o, d => by
    have h1 := h r (by simp)
    have e : setStep key l (o, d) r = (o ++ [r], d) := by
      unfold setStep
      simp [h1, less_ne h1]
    rw [List.foldl_cons, e, fold_low key l A (fun x hx => h x (by simp [hx]))]
    simp
theorem fold_done (key : ByteArray) (l : List Ver) : ∀ (B : List LRow) (o : List LRow), B.foldl (setStep key l) (o, true) = (o ++ B.filter (other key), true)
  | [], o => by simp
  | r :: B, o => by
    rw [List.foldl_cons]
    by_cases h : r.1.toList = key.toList
    · have e : setStep key l (o, true) r = (o, true) := by unfold setStep; simp [h]
      rw [e, fold_done key l B, List.filter_cons_of_neg (by simp [other, h])]
    · have e : setStep key l (o, true) r = (o ++ [r], true) := by unfold setStep; simp [h]
      rw [e, fold_done key l B, List.filter_cons_of_pos (by simp [other, h])]
      simp
/-- what a key's row becomes -/
def one (key : ByteArray) (l : List Ver) : List LRow := if l.length = 0 then [] else [(key, l)]
theorem setL_split (key : ByteArray) (l : List Ver) (A B : List LRow) (hA : ∀ r ∈ A, Op.bytesLess r.1.toList key.toList = true) (hB : ∀ r ∈ B, Op.bytesLess r.1.toList key.toList = false) :
    setL (A ++ B) key l = A ++ one key l ++ B.filter (other key) := by
  unfold setL setSt one
  rw [List.foldl_append, fold_low key l A hA]
  by_cases hl : l.length = 0
  · simp only [hl, decide_true, fold_done]
    simp
  · simp only [hl, decide_false, if_false]
    cases B with
    | nil => simp
    | cons r B =>
      have h1 := hB r (by simp)
      rw [List.foldl_cons]
      by_cases h : r.1.toList = key.toList
      · have e : setStep key l ([] ++ A, false) r = (A ++ [(key, l)], true) := by unfold setStep; simp only [h1]; simp [h]
        rw [e, fold_done key l B, List.filter_cons_of_neg (by simp [other, h])]
        simp
      · have e : setStep key l ([] ++ A, false) r = (A ++ [(key, l)] ++ [r], true) := by unfold setStep; simp only [h1]; simp [h]
        rw [e, fold_done key l B, List.filter_cons_of_pos (by simp [other, h])]
        simp
/-- each key's versions become others; without any it is not there -/
def mapR (f : List Ver → List Ver) (L : List LRow) : List LRow := L.flatMap fun r => one r.1 (f r.2)
theorem one_key {key : ByteArray} {l : List Ver} {r : LRow} (h : r ∈ one key l) : r.1 = key ∧ r.2 = l := by
  unfold one at h
  split at h
  · cases h
  · rw [List.mem_singleton.1 h]; exact ⟨rfl, rfl⟩
theorem one_length (key : ByteArray) (l : List Ver) : (one key l).length ≤ 1 := by unfold one; split <;> simp
theorem mapR_length (f : List Ver → List Ver) (L : List LRow) : (mapR f L).length ≤ L.length := by
  induction L with
  | nil => simp [mapR]
  | cons r L ih =>
    have := one_length r.1 (f r.2)
    rw [mapR, List.flatMap_cons, List.length_append]
    rw [mapR] at ih
    simp only [List.length_cons]
    omega
theorem mapR_mem {f : List Ver → List Ver} {L : List LRow} {r : LRow} (h : r ∈ mapR f L) : ∃ q ∈ L, r.1 = q.1 ∧ r.2 = f q.2 := by
  obtain ⟨q, hq, h⟩ := List.mem_flatMap.1 h
  exact ⟨q, hq, one_key h⟩
theorem mapR_sorted {f : List Ver → List Ver} {L : List LRow} (h : Srt L) : Srt (mapR f L) := by
  induction L with
  | nil => simp [Srt, mapR]
  | cons r L ih =>
    have h' := List.pairwise_cons.1 h
    rw [mapR, List.flatMap_cons]
    refine List.pairwise_append.2 ⟨?_, ih h'.2, fun a ha b hb => ?_⟩
    · unfold one; split <;> simp
    · obtain ⟨q, hq, e, _⟩ := mapR_mem hb
      rw [(one_key ha).1, e]
      exact h'.1 q hq
theorem set_at {f : List Ver → List Ver} {L : List LRow} (h : Srt L) (k : Nat) (hk : k < L.length) :
    setL (mapR f (L.take k) ++ L.drop k) (rkey L k) (f (rvers L k)) = mapR f (L.take (k + 1)) ++ L.drop (k + 1) := by
  have e : rrow L k = L[k] := by rw [rrow, List.getElem?_eq_getElem hk]; rfl
  have hp := List.pairwise_iff_getElem.1 h
  have ek : rkey L k = L[k].1 := congrArg Prod.fst ((rrow_parts L k).symm.trans e)
  have ev : rvers L k = L[k].2 := congrArg Prod.snd ((rrow_parts L k).symm.trans e)
  have hd : L.drop k = L[k] :: L.drop (k + 1) := List.drop_eq_getElem_cons hk
  have hafter : ∀ r ∈ L.drop (k + 1), Op.bytesLess (rkey L k).toList r.1.toList = true := by
    intro r hr
    obtain ⟨i, hi, rfl⟩ := List.mem_iff_getElem.1 hr
    rw [ek, List.getElem_drop]
    simp at hi
    exact hp k (k + 1 + i) hk (by omega) (by omega)
  rw [setL_split]
  · rw [hd, List.filter_cons_of_neg (by simp [other, ek])]
    have e2 : (L.drop (k + 1)).filter (other (rkey L k)) = L.drop (k + 1) := by
      refine List.filter_eq_self.2 fun r hr => ?_
      have := less_ne (hafter r hr)
      simpa [other] using fun e => this e.symm
    rw [e2, List.take_succ_eq_append_getElem hk, mapR, mapR, List.flatMap_append, ek, ev]
    simp
  · intro r hr
    obtain ⟨q, hq, e1, _⟩ := mapR_mem hr
    obtain ⟨i, hi, rfl⟩ := List.mem_iff_getElem.1 hq
    rw [e1, List.getElem_take, ek]
    simp at hi
    exact hp i k (by omega) hk (by omega)
  · intro r hr
    rw [hd] at hr
    rcases List.mem_cons.1 hr with rfl | hr
    · rw [ek]; exact less_self _
    · exact less_not (hafter r hr)

theorem RRow.pairs {w : World} {a : Option Addr} {n : Nat} {L : List LRow} (h : RRow w a n L) : ∃ ps : List (ByteArray × Value), ps.length = n ∧ (∀ i p, ps[i]? = some p → p.1 = rkey L i ∧ Rf w p.2 (rvers L i)) ∧
    (n = 0 ∨ ∃ b off, a = some ⟨b, off, none⟩ ∧ ∀ j u, (cellsR ps)[j]? = some u → w.cell? ⟨b, off + j, none⟩ = some u) := by
  obtain ⟨h1, h2, h3⟩ := h
  rcases h3 with rfl | ⟨b, off, rfl, hc⟩
  · simp at h1; subst h1
    exact ⟨[], rfl, by simp, .inl rfl⟩
  · have hex : ∀ i : Nat, ∃ u : Value, i < n → w.cell? ⟨b, off + i * 2 + 1, none⟩ = some u ∧ Rf w u (rvers L i) := by
      intro i
      by_cases hi : i < n
      · obtain ⟨_, u, c1, hu⟩ := hc i hi
        exact ⟨u, fun _ => ⟨c1, hu⟩⟩
      · exact ⟨undef, fun h => absurd h hi⟩
    obtain ⟨f, hf⟩ := Classical.axiomOfChoice hex
    refine ⟨(List.range n).map fun i => (rkey L i, f i), by simp, fun i p hp => ?_, .inr ⟨b, off, rfl, fun j u hj => ?_⟩⟩
    · have hi : i < n := by have := (List.getElem?_eq_some_iff.1 hp).1; simpa using this
      rw [List.getElem?_map, List.getElem?_range hi] at hp
      simp at hp
      subst hp
      exact ⟨rfl, (hf i hi).2⟩
    · have hlt := (List.getElem?_eq_some_iff.1 hj).1
      rw [cellsR_length] at hlt
      simp at hlt
      have hi : j / 2 < n := by omega
      have hp : ((List.range n).map fun i => (rkey L i, f i))[j / 2]? = some (rkey L (j / 2), f (j / 2)) := by rw [List.getElem?_map, List.getElem?_range hi]; rfl
      obtain ⟨c0, c1⟩ := cellsR_at _ _ _ hp
      rcases Nat.mod_two_eq_zero_or_one j with hm | hm
      · rw [show j = j / 2 * 2 by omega] at hj ⊢
        rw [c0] at hj
        rw [← hj]
        exact (hc _ hi).1
      · have ej : j = j / 2 * 2 + 1 := by omega
        rw [ej] at hj ⊢
        rw [c1] at hj
        rw [← hj]
        exact (hf _ hi).1
theorem cellsR_one {w : World} {L : List LRow} {ps : List (ByteArray × Value)} (h : ∀ i p, ps[i]? = some p → p.1 = rkey L i ∧ Rf w p.2 (rvers L i)) : ∀ u ∈ cellsR ps, u.oneCell' = true := by
  intro u hu
  obtain ⟨p, hp, hu⟩ := List.mem_flatMap.1 hu
  obtain ⟨i, hi, e⟩ := List.mem_iff_getElem.1 hp
  obtain ⟨_, a, k, c, e2, _⟩ := h i p (by rw [List.getElem?_eq_getElem hi, e])
  rcases List.mem_cons.1 hu with rfl | hu
  · simp [Value.oneCell']
  · rw [List.mem_singleton.1 hu, e2]
    simp [Value.oneCell']
/-- a copy of the rows -/
theorem wp_append_copy {w : World} {ops : Array Oper} {rest : List Oper} {o : Oper} {a : Act} {Q : Exit → Act → World → Prop} (hgd : o.guard = none) (s x : Operand)
    (ho : o.op = .call { callee := .builtin .append, args := #[s, x], argTypes := #[57, 57] })
    (w0 : World) (base : Nat) (v : Value) (L : List LRow) (hs : a.eval s = v) (hown : w.ownsRow base 66 2 v 0 [])
    (xa : Option Addr) (n c : Nat) (hx : a.eval x = .slice xa n c) (hr : RRow w0 xa n L) (h0 : xa = none → c = 0) (hw : Below w0.heap.size w0 w) (hbase : base ≤ w.heap.size)
    (h : ∀ v' w', ROwn w0 w' base v' L → Below base w w' → w.grownBy w' v.ownBlock → wpList Try.prog ops Q rest (a.put o.dst v') w') : wpList Try.prog ops Q (o :: rest) a w := by
  obtain ⟨i0, hi, hz0, hz1, hz2⟩ := info_parts Try.info_66
  have hn : n ≤ 1000000 := hr.2.1
  have hlen := hr.1
  obtain ⟨ps, h1, h2, h3⟩ := hr.pairs
  cases xa with
  | none =>
    have e0 : n = 0 := by
      rcases h3 with e | ⟨b, off, e, _⟩
      · exact e
      · cases e
    subst e0
    rw [h0 rfl] at hx
    refine wpList_append_own_none hgd s x 57 ho base 66 i0 2 Try.underlying57 hi v 0 [] hs hown hx ?_
    refine h v w ⟨[], hown, hlen.symm, by simp⟩ (Below.refl _ _) (World.grownBy.refl _ _)
  | some ad =>
    refine wpList_append_own w hgd s x 57 ho base 66 i0 _ 2 40 Try.underlying57 hi hz0 hz1 hz2 rfl (by decide) v _ _ hs hown ad n c (cellsR ps) hx (by rw [cellsR_length, h1]) ?_ (cellsR_one h2) (by unfold maxLen; omega) (by omega) hbase ?_
    · intro j u hj
      rcases h3 with e | ⟨b, off, e, hc⟩
      · have := (List.getElem?_eq_some_iff.1 hj).1
        rw [cellsR_length, h1, e] at this
        omega
      · cases e
        rw [Addr.add_lit]
        exact cell_later hw (hc j u hj)
    · intro v' w' k1 k2 _
      refine h v' w' ⟨ps, ?_, by omega, h2⟩ ((Below.refl _ _).grown k2 hbase (fun k hk => (World.ownsRow.lt hown k hk).1)) k2
      rw [h1]
      simpa using k1
theorem ROwn.grown {w0 w wx : World} {base gr : Nat} {v : Value} {L : List LRow} (h : ROwn w0 w base v L) (hg : w.grownBy wx (some gr)) (hlt : gr < base) : ROwn w0 wx base v L := by
  obtain ⟨ps, ⟨hl, h⟩, h2⟩ := h
  refine ⟨ps, ⟨hl, ?_⟩, h2⟩
  rcases h with h | ⟨g, cap, cur, hv, hb, hh, hn⟩
  · exact .inl h
  · exact .inr ⟨g, cap, cur, hv, hb, by rw [hg.block g (Array.getElem?_eq_some_iff.1 hh).1 (fun e => by injection e with e; omega)]; exact hh, hn⟩
theorem Rf.grown {w wx : World} {gr : Nat} {u x : Value} {l : List Ver} (h : Rf w u l) (hb : w.heap[gr]? = some (.cells #[x] 59)) (hx : ∀ i, x ≠ .int .i64 i) (hg : w.grownBy wx (some gr)) : Rf wx u l := by
  obtain ⟨a, k, c, e, h1, h2⟩ := h
  exact ⟨a, k, c, e, h1.box hb hx (fun k hk hne => hg.block k hk (fun e => hne (by injection e))), h2⟩
theorem VOwn.rf {w : World} {base : Nat} {e : TypeId} {v : Value} {l : List Ver} (h : VOwn w base e v l) : Rf w v l := by
  obtain ⟨a, c, e, h1, _, _, h2⟩ := h.slice
  exact ⟨a, _, c, e, h1, fun e => (h2 e).2⟩
end Go.Proofs.Ytmahigfamgbhfaa
