/- Rows of versions in memory; a version compared with another one; what a value may be. -/
import Derived.Test.YtmahigfamgbhfaaObM
import Derived.Laws.StructEq
import Derived.Handy
namespace Go.Proofs.Ytmahigfamgbhfaa
open Go.RowKit

/-- a version as a value, and as cells -/
abbrev Ver.value (v : Ver) : Value := .agg #[.int .i64 v.pos, .int .u64 (v.num : Nat), .string v.val, .bool v.gone]
def Ver.cells (v : Ver) : List Value := [.int .i64 v.pos, .int .u64 (v.num : Nat), .string v.val, .bool v.gone]
def cellsL (l : List Ver) : List Value := l.flatMap Ver.cells
theorem cellsL_cons (v : Ver) (l : List Ver) : cellsL (v :: l) = v.cells ++ cellsL l := by simp [cellsL]
theorem cellsL_append (l m : List Ver) : cellsL (l ++ m) = cellsL l ++ cellsL m := by simp [cellsL]
theorem cells_length (v : Ver) : v.cells.length = 4 := rfl
theorem cellsL_length (l : List Ver) : (cellsL l).length = l.length * 4 := by
  induction l with
  | nil => rfl
  | cons v l ih => rw [cellsL_cons, List.length_append, ih, cells_length, List.length_cons]; omega
theorem cellsL_one (l : List Ver) : ∀ u ∈ cellsL l, u.oneCell' = true := by
  intro u hu
  simp only [cellsL, List.mem_flatMap] at hu
  obtain ⟨v, _, hu⟩ := hu
  simp only [Ver.cells, List.mem_cons, List.not_mem_nil, or_false] at hu
  rcases hu with rfl | rfl | rfl | rfl <;> rfl
theorem cellsL_at (l : List Ver) : ∀ i k, i < l.length → k < 4 → (cellsL l)[i * 4 + k]? = (nth l i).cells[k]? := by
  induction l with
  | nil => intro i k hi; simp at hi
  | cons v l ih =>
    intro i k hi hk
    rw [cellsL_cons]
    cases i with
    | zero => rw [List.getElem?_append_left (by rw [cells_length]; omega)]; simp [nth]
    | succ i =>
      rw [List.getElem?_append_right (by rw [cells_length]; omega), cells_length, show (i + 1) * 4 + k - 4 = i * 4 + k by omega, ih i k (by simpa using hi) hk]
      simp [nth]

/-- versions, as a slice's elements lie in memory -/
def VRow (w : World) (a : Option Addr) (n : Nat) (l : List Ver) : Prop :=
  l.length = n ∧ (∀ v ∈ l, v.ok) ∧ n ≤ maxLen ∧
  (l = [] ∨ ∃ b off, a = some ⟨b, off, none⟩ ∧ ∀ i, i < n → w.cell? ⟨b, off + i * 4, none⟩ = some (.int .i64 (nth l i).pos) ∧ w.cell? ⟨b, off + i * 4 + 1, none⟩ = some (.int .u64 ((nth l i).num : Nat)) ∧ w.cell? ⟨b, off + i * 4 + 2, none⟩ = some (.string (nth l i).val) ∧ w.cell? ⟨b, off + i * 4 + 3, none⟩ = some (.bool (nth l i).gone))
theorem VRow.later {w wx : World} {a : Option Addr} {n : Nat} {l : List Ver} (h : VRow w a n l) (hb : Below w.heap.size w wx) : VRow wx a n l := by
  obtain ⟨h1, h2, h3, h4⟩ := h
  refine ⟨h1, h2, h3, ?_⟩
  rcases h4 with h4 | ⟨b, off, h4, hc⟩
  · exact .inl h4
  · refine .inr ⟨b, off, h4, fun i hi => ?_⟩
    obtain ⟨c0, c1, c2, c3⟩ := hc i hi
    exact ⟨cell_later hb c0, cell_later hb c1, cell_later hb c2, cell_later hb c3⟩
theorem VRow.drews {w : World} {a : Option Addr} {n k : Nat} {l : List Ver} (h : VRow w a n l) : VRow (w.drewN k) a n l := h
theorem VRow.nil (w : World) (a : Option Addr) : VRow w a 0 [] := ⟨rfl, by simp, by simp, .inl rfl⟩
theorem VRow.at {w : World} {a : Option Addr} {n : Nat} {l : List Ver} (h : VRow w a n l) (hn : 0 < n) :
    ∃ b off, a = some ⟨b, off, none⟩ ∧ ∀ i, i < n → w.cell? ⟨b, off + i * 4, none⟩ = some (.int .i64 (nth l i).pos) ∧ w.cell? ⟨b, off + i * 4 + 1, none⟩ = some (.int .u64 ((nth l i).num : Nat)) ∧ w.cell? ⟨b, off + i * 4 + 2, none⟩ = some (.string (nth l i).val) ∧ w.cell? ⟨b, off + i * 4 + 3, none⟩ = some (.bool (nth l i).gone) := by
  obtain ⟨h1, _, _, h4⟩ := h
  rcases h4 with rfl | h4
  · simp at h1; omega
  · exact h4
theorem VRow.okn {w : World} {a : Option Addr} {n : Nat} {l : List Ver} (h : VRow w a n l) (i : Nat) : (nth l i).ok := by
  rcases Nat.lt_or_ge i l.length with hi | hi
  · exact h.2.1 _ (nth_mem l i hi)
  · rw [nth_ge l i hi]; exact Ver.zero_ok
/-- a part -/
theorem VRow.take {w : World} {a : Option Addr} {n : Nat} {l : List Ver} (h : VRow w a n l) (k : Nat) (hk : k ≤ n) : VRow w a k (l.take k) := by
  obtain ⟨h1, h2, h3, h4⟩ := h
  refine ⟨by simp; omega, fun v hv => h2 v (List.mem_of_mem_take hv), by omega, ?_⟩
  rcases h4 with rfl | ⟨b, off, h4, hc⟩
  · exact .inl (by simp)
  · refine .inr ⟨b, off, h4, fun i hi => ?_⟩
    rw [nth_take l k i hi]
    exact hc i (by omega)
theorem VRow.drop {w : World} {b off n : Nat} {l : List Ver} (h : VRow w (some ⟨b, off, none⟩) n l) (k : Nat) (hk : k ≤ n) : VRow w (some ⟨b, off + k * 4, none⟩) (n - k) (l.drop k) := by
  obtain ⟨h1, h2, h3, h4⟩ := h
  refine ⟨by simp; omega, fun v hv => h2 v (List.mem_of_mem_drop hv), by omega, ?_⟩
  rcases h4 with rfl | ⟨b', off', h4, hc⟩
  · exact .inl (by simp)
  · simp only [Option.some.injEq, Addr.mk.injEq] at h4
    obtain ⟨rfl, rfl, _⟩ := h4
    refine .inr ⟨_, _, rfl, fun i hi => ?_⟩
    rw [nth_drop, Nat.add_assoc off, ← Nat.add_mul]
    exact hc (k + i) (by omega)
/-- the row's cells, one behind the other -/
theorem VRow.news {w : World} {b off n : Nat} {l : List Ver} (h : VRow w (some ⟨b, off, none⟩) n l) : ∀ j u, (cellsL l)[j]? = some u → w.cell? ⟨b, off + j, none⟩ = some u := by
  intro j u hj
  have hlt : j < l.length * 4 := by rw [← cellsL_length]; exact (List.getElem?_eq_some_iff.1 hj).1
  obtain ⟨b', off', e, hc⟩ := h.at (by have := h.1; omega)
  simp only [Option.some.injEq, Addr.mk.injEq] at e
  obtain ⟨rfl, rfl, _⟩ := e
  have hd : j = (j / 4) * 4 + j % 4 := by omega
  have hq : j / 4 < l.length := by omega
  rw [hd, cellsL_at l _ _ hq (by omega)] at hj
  obtain ⟨c0, c1, c2, c3⟩ := hc (j / 4) (by rw [← h.1]; exact hq)
  rw [hd, ← Nat.add_assoc]
  have hm : j % 4 < 4 := by omega
  generalize j % 4 = m at *
  generalize j / 4 = q at *
  match m, hm with
  | 0, _ => simp [Ver.cells] at hj; rw [Nat.add_zero, ← hj]; exact c0
  | 1, _ => simp [Ver.cells] at hj; rw [← hj]; exact c1
  | 2, _ => simp [Ver.cells] at hj; rw [← hj]; exact c2
  | 3, _ => simp [Ver.cells] at hj; rw [← hj]; exact c3

/-- a slice of versions that the call itself has made -/
def VOwn (w : World) (base : Nat) (e : TypeId) (v : Value) (l : List Ver) : Prop := w.ownsRow base e 4 v l.length (cellsL l) ∧ ∀ x ∈ l, x.ok
theorem VOwn.nil (w : World) (base : Nat) (e : TypeId) : VOwn w base e (.slice none 0 0) [] := ⟨World.ownsRow_nil _ _ _ _, by simp⟩
theorem VOwn.later {w wx : World} {base : Nat} {e : TypeId} {v : Value} {l : List Ver} (h : VOwn w base e v l) (hb : Below w.heap.size w wx) : VOwn wx base e v l := by
  obtain ⟨⟨hl, h⟩, hx⟩ := h
  refine ⟨⟨hl, ?_⟩, hx⟩
  rcases h with h | ⟨g, cap, cur, hv, hg, hh, hn⟩
  · exact .inl h
  · exact .inr ⟨g, cap, cur, hv, hg, by rw [hb.block g (by have := Array.getElem?_eq_some_iff.1 hh; exact this.1)]; exact hh, hn⟩
theorem VOwn.mono {w : World} {base base' : Nat} {e : TypeId} {v : Value} {l : List Ver} (h : VOwn w base e v l) (hb : base' ≤ base) : VOwn w base' e v l := by
  obtain ⟨⟨hl, h⟩, hx⟩ := h
  refine ⟨⟨hl, ?_⟩, hx⟩
  rcases h with h | ⟨g, cap, cur, hv, hg, hn⟩
  · exact .inl h
  · exact .inr ⟨g, cap, cur, hv, by omega, hn⟩
theorem VOwn.block {w : World} {base : Nat} {e : TypeId} {v : Value} {l : List Ver} (h : VOwn w base e v l) : ∀ k, v.ownBlock = some k → base ≤ k := fun k hk => (World.ownsRow.lt h.1 k hk).1
theorem VOwn.slice {w : World} {base : Nat} {e : TypeId} {v : Value} {l : List Ver} (h : VOwn w base e v l) :
    ∃ a cap, v = .slice a l.length cap ∧ VRow w a l.length l ∧ l.length ≤ cap ∧ cap ≤ maxLen ∧ (a = none → l = [] ∧ cap = 0) := by
  obtain ⟨⟨hl, h⟩, hb⟩ := h
  rcases h with ⟨rfl, hn⟩ | ⟨g, cap, cur, rfl, hg, hh, hn, hm, hs, ht⟩
  · have e : l = [] := List.length_eq_zero_iff.1 hn
    subst e
    exact ⟨none, 0, rfl, VRow.nil _ _, by simp, by simp, by simp⟩
  · refine ⟨_, cap, rfl, ⟨rfl, hb, by omega, .inr ⟨g, 0, rfl, fun i hi => ?_⟩⟩, hn, hm, by simp⟩
    have hcur : ∀ k, k < 4 → cur[i * 4 + k]? = (nth l i).cells[k]? := by
      intro k hk
      have e : (cur.toList.take (l.length * 4))[i * 4 + k]? = (cellsL l)[i * 4 + k]? := by rw [ht]
      rw [List.getElem?_take_of_lt (by omega), Array.getElem?_toList, cellsL_at l i k hi hk] at e
      exact e
    have h0 := hcur 0 (by omega)
    have h1 := hcur 1 (by omega)
    have h2 := hcur 2 (by omega)
    have h3 := hcur 3 (by omega)
    simp only [Nat.zero_add]
    exact ⟨cell_of_heap hh h0, cell_of_heap hh h1, cell_of_heap hh h2, cell_of_heap hh h3⟩

theorem Try.info_36 : (Try.prog.info? 36).map (fun i => (i.zero, i.size, i.bytes)) = some (some (.agg #[.int .i64 0, .int .u64 0, .string ⟨#[]⟩, .bool false]), 4, 40) := by kernel_rfl
theorem Try.info_43 : (Try.prog.info? 43).map (fun i => (i.zero, i.size, i.bytes)) = some (some (.agg #[.int .i64 0, .int .u64 0, .string ⟨#[]⟩, .bool false]), 4, 40) := by kernel_rfl

/-- 'append(x, y)', x the call's own, y one version -/
theorem wp_append_ver (t e : TypeId) (hu : Try.prog.underlying t = some (.slice e)) (hinfo : (Try.prog.info? e).map (fun i => (i.zero, i.size, i.bytes)) = some (some (.agg #[.int .i64 0, .int .u64 0, .string ⟨#[]⟩, .bool false]), 4, 40))
    {w : World} {ops : Array Oper} {rest : List Oper} {o : Oper} {a : Act} {Q : Exit → Act → World → Prop} (hgd : o.guard = none) (s x : Operand)
    (ho : o.op = .call { callee := .builtin .append, args := #[s, x], argTypes := #[t, t] })
    (base : Nat) (v : Value) (l : List Ver) (hs : a.eval s = v) (hown : VOwn w base e v l)
    (g c : Nat) (u : Ver) (hx : a.eval x = .slice (some ⟨g, 0, none⟩) 1 c) (hc : w.heap[g]? = some (.cells #[.int .i64 u.pos, .int .u64 (u.num : Nat), .string u.val, .bool u.gone] e)) (hok : u.ok)
    (hmany : l.length ≤ 1000000000) (hbase : base ≤ w.heap.size)
    (h : ∀ v' w', VOwn w' base e v' (l ++ [u]) → Below base w w' → w.grownBy w' v.ownBlock → wpList Try.prog ops Q rest (a.put o.dst v') w') : wpList Try.prog ops Q (o :: rest) a w := by
  obtain ⟨i0, hi, hz0, hz1, hz2⟩ := info_parts hinfo
  refine wpList_append_own w hgd s x t ho base e i0 _ 4 40 hu hi hz0 hz1 hz2 rfl (by decide) v _ _ hs hown.1 ⟨g, 0, none⟩ 1 c u.cells hx rfl ?_ ?_ (by unfold maxLen; omega) (by omega) hbase ?_
  · intro j y hj
    rw [Addr.add_lit]
    match j, hj with
    | 0, hj => exact cell_of_heap hc (by simpa [Ver.cells] using hj)
    | 1, hj => exact cell_of_heap hc (by simpa [Ver.cells] using hj)
    | 2, hj => exact cell_of_heap hc (by simpa [Ver.cells] using hj)
    | 3, hj => exact cell_of_heap hc (by simpa [Ver.cells] using hj)
    | j + 4, hj => simp [Ver.cells] at hj
  · have := cellsL_one [u]
    simpa [cellsL] using this
  · intro v' w' h1 h2 _
    refine h v' w' ⟨?_, ?_⟩ ((Below.refl _ _).grown h2 hbase hown.block) h2
    · rw [cellsL_append, List.length_append, show cellsL [u] = u.cells by simp [cellsL]]
      exact h1
    · intro y hy
      rcases List.mem_append.1 hy with hy | hy
      · exact hown.2 y hy
      · simp at hy; rw [hy]; exact hok

/-- are two versions the same? -/
def eqV (a b : Ver) : Bool := (a.pos == b.pos) && ((a.num : Int) == (b.num : Int)) && (a.val.toList == b.val.toList) && (a.gone == b.gone)
theorem eqV_self (a : Ver) : eqV a a = true := by simp [eqV]
theorem eql_36 (a b : Ver) (w : World) : (binOp .eql 36 a.value b.value).run Try.prog w = .ok (.bool (eqV a b)) w := by
  have hS : Try.prog.underlying 36 = some (.struct (Try.prog.fieldsOf 36)) := by kernel_rfl
  have hp : Try.prog.stoodInHeld 36 = false := by kernel_rfl
  rw [run_eql_struct, show (10000 : Nat) = 9999 + 1 from rfl, run_equalIn_agg w 9999 36 _ _ hS hp]
  simp only [Program.fieldsOf, Try.underlying36, eqV]
  go_simp
  by_cases h1 : a.pos = b.pos <;> by_cases h2 : (a.num : Int) = (b.num : Int) <;> by_cases h3 : a.val.toList = b.val.toList <;> by_cases h4 : a.gone = b.gone <;> simp [h1, h2, h3, h4]
theorem neq_36 (a b : Ver) (w : World) : (binOp .neq 36 a.value b.value).run Try.prog w = .ok (.bool (!eqV a b)) w := by
  have hS : Try.prog.underlying 36 = some (.struct (Try.prog.fieldsOf 36)) := by kernel_rfl
  have hp : Try.prog.stoodInHeld 36 = false := by kernel_rfl
  rw [run_neq_struct, show (10000 : Nat) = 9999 + 1 from rfl, run_equalIn_agg w 9999 36 _ _ hS hp]
  simp only [Program.fieldsOf, Try.underlying36, eqV]
  go_simp
  by_cases h1 : a.pos = b.pos <;> by_cases h2 : (a.num : Int) = (b.num : Int) <;> by_cases h3 : a.val.toList = b.val.toList <;> by_cases h4 : a.gone = b.gone <;> simp [h1, h2, h3, h4]
theorem neq_43 (a b : Ver) (w : World) : (binOp .neq 43 a.value b.value).run Try.prog w = .ok (.bool (!eqV a b)) w := by
  have hS : Try.prog.underlying 43 = some (.struct (Try.prog.fieldsOf 43)) := by kernel_rfl
  have hp : Try.prog.stoodInHeld 43 = false := by kernel_rfl
  rw [run_neq_struct, show (10000 : Nat) = 9999 + 1 from rfl, run_equalIn_agg w 9999 43 _ _ hS hp]
  simp only [Program.fieldsOf, Try.underlying43, eqV]
  go_simp
  by_cases h1 : a.pos = b.pos <;> by_cases h2 : (a.num : Int) = (b.num : Int) <;> by_cases h3 : a.val.toList = b.val.toList <;> by_cases h4 : a.gone = b.gone <;> simp [h1, h2, h3, h4]

theorem size_none (s : ByteArray) (h : s.size = 0) : s = ⟨#[]⟩ := by
  cases s with
  | mk d => have : d = #[] := Array.size_eq_zero_iff.1 h; rw [this]

theorem none_toList (s : ByteArray) (h : s.toList = []) : s.size = 0 := by
  rw [ByteArray.toList_eq] at h
  have := congrArg List.length h
  simpa using this
theorem mayStand_any (s : ByteArray) (g : Bool) (w : World) (hs : s.size ≤ maxLen) :
    Calls Try.prog 42 #[.string s, .bool g] w fun e w' => e = .returned (.bool (may s g)) ∧ w' = w := by
  by_cases h0 : s.size = 0
  · rw [show may s g = true by simp [may, rightVal_none s h0, h0], size_none s h0]
    have hr : rightVal ⟨#[]⟩ = true := rightVal_none _ rfl
    go_enter Try.func42, Try.ntmps42
    go_wp2_with fail
    refine (krightVal_any ⟨#[]⟩ _ (Nat.zero_le _)).mono ?_
    rintro e w1 ⟨rfl, hw⟩
    subst w1
    rw [hr]
    cases g
    · go_wp2
      go_ret
      exact ⟨rfl, rfl⟩
    · go_wp2
      go_ret
      exact ⟨rfl, rfl⟩
  · have he : (s.toList == []) = false := by
      cases h : s.toList == [] with
      | false => rfl
      | true =>
        exact absurd (none_toList s (eq_of_beq h)) h0
    have hc := krightVal_any s w hs
    cases hr : rightVal s
    · rw [hr] at hc
      rw [show may s g = false by simp [may, hr]]
      go_enter Try.func42, Try.ntmps42
      go_wp2_with fail
      refine hc.mono ?_
      rintro e w1 ⟨rfl, hw⟩
      subst w1
      go_wp2
      go_ret
      exact ⟨rfl, rfl⟩
    · rw [hr] at hc
      cases g
      · rw [show may s false = true by simp [may, hr]]
        go_enter Try.func42, Try.ntmps42
        go_wp2_with fail
        refine hc.mono ?_
        rintro e w1 ⟨rfl, hw⟩
        subst w1
        go_wp2
        go_ret
        exact ⟨rfl, rfl⟩
      · rw [show may s true = false by simp [may, h0]]
        go_enter Try.func42, Try.ntmps42
        go_wp2_with fail
        refine hc.mono ?_
        rintro e w1 ⟨rfl, hw⟩
        subst w1
        go_wp2
        go_ret
        exact ⟨rfl, rfl⟩
theorem ref_may_any (s : ByteArray) (g : Bool) (w : World) (hs : s.size ≤ maxLen) :
    Calls Try.prog 22 #[.string s, .bool g] w fun e w' => e = .returned (.bool (may s g)) ∧ w' = w := by
  cases g
  · rw [may_there]
    go_enter Try.func22, Try.ntmps22
    go_wp2_with fail
    refine (ref_rightVal_any s _ hs).mono ?_
    rintro e w1 ⟨rfl, hw⟩
    subst w1
    go_wp2
    go_ret
    exact ⟨rfl, rfl⟩
  · rw [may_gone]
    by_cases h0 : s.size = 0
    · rw [decide_eq_true h0, size_none s h0]
      go_enter Try.func22, Try.ntmps22
      go_wp2
      go_ret
      exact ⟨rfl, rfl⟩
    · rw [decide_eq_false h0]
      have he : (s.toList == []) = false := by
        cases h : s.toList == [] with
        | false => rfl
        | true =>
          exact absurd (none_toList s (eq_of_beq h)) h0
      go_enter Try.func22, Try.ntmps22
      go_wp2
      go_ret
      exact ⟨rfl, rfl⟩
end Go.Proofs.Ytmahigfamgbhfaa
