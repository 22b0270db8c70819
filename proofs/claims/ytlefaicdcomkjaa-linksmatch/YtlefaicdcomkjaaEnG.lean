/- What serves any elements: a frame by the types of blocks, elements one behind the other, an append to a slice that was made. -/
import Derived.Test.YtlefaicdcomkjaaKeB
import Derived.Test.YtlefaicdcomkjaaVec
import Derived.Laws.StructEq
import Derived.Handy
import Derived.Deep.Cut
namespace Go.Proofs.Ytlefaicdcomkjaa
open Go Go.RowKit
set_option linter.unusedVariables false
set_option linter.unusedSimpArgs false

theorem toList_inj {a b : ByteArray} (h : a.toList = b.toList) : a = b := by
  rw [ByteArray.toList_eq, ByteArray.toList_eq] at h
  obtain ⟨⟨a⟩⟩ := a
  obtain ⟨⟨b⟩⟩ := b
  simp at h
  rw [h]
theorem key_eq (a b : ByteArray) : (a.toList == b.toList) = decide (a = b) := by
  by_cases h : a = b
  · simp [h]
  · have : ¬ a.toList = b.toList := fun e => h (toList_inj e)
    simp [h, this]

abbrev Id := Int × Int
abbrev idv (x : Id) : Value := .agg #[.int .i64 x.1, .int .u64 x.2]
/-- the type of a block's cells -/
def tagOf (w : World) (k : Nat) : Option Nat := match w.heap[k]? with
  | some (.cells _ t _) => some t
  | _ => none
theorem tagOf_heap {w : World} {k : Nat} {cs : Array Value} {t : TypeId} {m : Nat × Nat} (h : w.heap[k]? = some (.cells cs t m)) : tagOf w k = some t := by simp [tagOf, h]
theorem tagOf_same {w w' : World} {k : Nat} (h : w'.heap[k]? = w.heap[k]?) : tagOf w' k = tagOf w k := by simp [tagOf, h]
/-- nothing is written but blocks of these types, from 'base' on -/
structure Fr (base : Nat) (T : List Nat) (w w' : World) : Prop where
  os : w'.os = w.os
  tape : w'.tape = w.tape
  output : w'.output = w.output
  size : w.heap.size ≤ w'.heap.size
  block : ∀ k, k < w.heap.size → (k < base ∨ ∀ t ∈ T, tagOf w k ≠ some t) → w'.heap[k]? = w.heap[k]?
theorem Fr.refl (base : Nat) (T : List Nat) (w : World) : Fr base T w w := ⟨rfl, rfl, rfl, Nat.le_refl _, fun _ _ _ => rfl⟩
theorem Fr.trans {base : Nat} {T : List Nat} {a b c : World} (h : Fr base T a b) (k : Fr base T b c) : Fr base T a c := by
  refine ⟨k.os.trans h.os, k.tape.trans h.tape, k.output.trans h.output, Nat.le_trans h.size k.size, fun i hi hc => ?_⟩
  have e := h.block i hi hc
  exact (k.block i (by have := h.size; omega) (hc.imp id (fun hc t ht => by rw [tagOf_same e]; exact hc t ht))).trans e
theorem Fr.below {base : Nat} {T : List Nat} {w w' : World} (h : Fr base T w w') (hb : base ≤ w.heap.size) : Below base w w' := ⟨h.os, h.tape, h.output, h.size, fun k hk => h.block k (by omega) (.inl hk)⟩
theorem Fr.of {base : Nat} {T : List Nat} {w w' : World} (h : Below w.heap.size w w') : Fr base T w w' := ⟨h.os, h.tape, h.output, h.size, fun k hk _ => h.block k hk⟩
theorem Fr.grown {base : Nat} {T : List Nat} {w w' : World} {row : Option Nat} (h : w.grownBy w' row) (hr : ∀ k, row = some k → base ≤ k ∧ ∃ t ∈ T, tagOf w k = some t) : Fr base T w w' := by
  refine ⟨h.os, h.tape, h.output, h.size, fun k hk hc => h.block k hk (fun e => ?_)⟩
  obtain ⟨h1, t, h2, h3⟩ := hr k e.symm
  rcases hc with hc | hc
  · omega
  · exact hc t h2 h3
theorem Fr.setCell {base : Nat} {T : List Nat} {w : World} {a : Addr} (u : Value) (h1 : base ≤ a.block) {t : Nat} (h2 : t ∈ T) (h3 : tagOf w a.block = some t) : Fr base T w (w.setCell a u) := by
  refine ⟨rfl, rfl, rfl, by simp [World.setCell], fun k hk hc => Below.heap_setCell _ _ _ _ (fun e => ?_)⟩
  rcases hc with hc | hc
  · omega
  · exact hc t h2 (by rw [e]; exact h3)
theorem Fr.sub {base : Nat} {T U : List Nat} {w w' : World} (h : Fr base T w w') (hs : ∀ t ∈ T, t ∈ U) : Fr base U w w' := ⟨h.os, h.tape, h.output, h.size, fun k hk hc => h.block k hk (hc.imp id (fun hc t ht => hc t (hs t ht)))⟩
theorem Fr.owns {base b2 : Nat} {T : List Nat} {w w' : World} {e : TypeId} {size : Nat} {v : Value} {n : Nat} {xs : List Value} (h : Fr base T w w') (ho : w.ownsRow b2 e size v n xs) (he : e ∉ T) : w'.ownsRow b2 e size v n xs := by
  obtain ⟨h1, h2⟩ := ho
  refine ⟨h1, ?_⟩
  rcases h2 with h2 | ⟨g, cap, cur, hv, hg, hh, hn⟩
  · exact .inl h2
  · refine .inr ⟨g, cap, cur, hv, hg, ?_, hn⟩
    rw [h.block g (Array.getElem?_eq_some_iff.1 hh).1 (.inr (fun t ht => by rw [tagOf_heap hh]; intro e; simp at e; rw [e] at he; exact he ht))]
    exact hh
theorem Fr.cells {base : Nat} {T : List Nat} {w w' : World} {g : Nat} {cs : Array Value} {t : TypeId} {m : Nat × Nat} (h : Fr base T w w') (hh : w.heap[g]? = some (.cells cs t m)) (he : t ∉ T) : w'.heap[g]? = some (.cells cs t m) := by
  rw [h.block g (Array.getElem?_eq_some_iff.1 hh).1 (.inr (fun t' ht => by rw [tagOf_heap hh]; intro e; simp at e; rw [e] at he; exact he ht))]
  exact hh

/-- cells of elements, one behind the other -/
theorem flat_length {α : Type} (f : α → List Value) (n : Nat) (hf : ∀ x, (f x).length = n) (l : List α) : (l.flatMap f).length = l.length * n := by
  induction l with
  | nil => simp
  | cons x l ih => rw [List.flatMap_cons, List.length_append, ih, hf, List.length_cons, Nat.succ_mul]; omega
theorem flat_at {α : Type} (f : α → List Value) (n : Nat) (hf : ∀ x, (f x).length = n) (l : List α) : ∀ i k x, l[i]? = some x → k < n → (l.flatMap f)[i * n + k]? = (f x)[k]? := by
  induction l with
  | nil => intro i k x h; simp at h
  | cons y l ih =>
    intro i k x h hk
    rw [List.flatMap_cons]
    cases i with
    | zero => simp at h; subst h; rw [List.getElem?_append_left (by rw [hf]; omega)]; simp
    | succ i =>
      rw [List.getElem?_append_right (by rw [hf, Nat.succ_mul]; omega), hf, show (i + 1) * n + k - n = i * n + k by rw [Nat.succ_mul]; omega]
      exact ih i k x (by simpa using h) hk
/-- such elements, where a slice that was made lies -/
theorem owns_at {α : Type} (f : α → List Value) (n : Nat) (hf : ∀ x, (f x).length = n) {w : World} {base : Nat} {e : TypeId} {v : Value} {l : List α} (h : w.ownsRow base e n v l.length (l.flatMap f)) :
    ∃ a c, v = .slice a l.length c ∧ l.length ≤ c ∧ c ≤ maxLen ∧ (a = none → c = 0 ∧ l = []) ∧ (0 < l.length → ∃ b off, a = some ⟨b, off, none⟩ ∧ ∀ i x, l[i]? = some x → ∀ k, k < n → w.cell? ⟨b, off + i * n + k, none⟩ = (f x)[k]?) := by
  rcases h.2 with ⟨rfl, hn⟩ | ⟨g, cap, cur, rfl, hg, hh, hn, hm, hs, ht⟩
  · have e := List.length_eq_zero_iff.1 hn
    subst e
    exact ⟨none, 0, rfl, by simp, by simp, by simp, by simp⟩
  · refine ⟨_, cap, rfl, hn, hm, by simp, fun _ => ⟨g, 0, rfl, fun i x hx k hk => ?_⟩⟩
    have hi : i < l.length := (List.getElem?_eq_some_iff.1 hx).1
    have hlt : i * n + k < l.length * n := by
      have : (i + 1) * n ≤ l.length * n := Nat.mul_le_mul_right n hi
      rw [Nat.succ_mul] at this
      omega
    have e : (cur.toList.take (l.length * n))[i * n + k]? = (l.flatMap f)[i * n + k]? := by rw [ht]
    rw [List.getElem?_take_of_lt hlt, Array.getElem?_toList, flat_at f n hf l i k x hx hk] at e
    have hk2 : k < (f x).length := by rw [hf]; exact hk
    rw [List.getElem?_eq_getElem hk2] at e ⊢
    rw [Nat.zero_add]
    exact cell_of_heap hh e

theorem run_append_block (w : World) (base : Nat) (t ty e : TypeId) (i : TypeInfo) (z : Value) (size bytes : Nat) (ht : Try.prog.underlying t = some (.slice e)) (hi : Try.prog.info? e = some i) (hz : i.zero = some z)
    (hsize : i.size = size) (hby : i.bytes = bytes) (v : Value) (n : Nat) (xs : List Value) (hown : w.ownsRow base e size v n xs)
    (a : Addr) (m c : Nat) (news : List Value) (hl : news.length = m * size) (hnews : ∀ j u, news[j]? = some u → w.cell? (a.add j) = some u) (h1 : ∀ u ∈ news, u.oneCell' = true) (hm : 0 < m)
    (h63 : n + m ≤ maxLen) (hbytes : (n + m) * bytes ≤ 140737488355328) (v' : Value) (w' : World) (hr : (Builtin.append_ #[t, t] ty #[v, .slice (some a) m c]).run Try.prog w = .ok v' w') : v'.ownBlock = v.ownBlock ∨ v'.ownBlock = some w.heap.size := by
  subst hsize hby
  simp only [maxLen] at h63
  rcases hown.2 with ⟨rfl, rfl⟩ | ⟨g, cap, cur, rfl, hbg, hg, hnc, hcm, hcs, htake⟩
  · have := run_append_nil (P := Try.prog) w t ty e i z ht hi hz a m c news hl hnews hm (by omega) (by simp only [Nat.zero_add] at hbytes; omega)
    rw [hr] at this
    simp only [Result.ok.injEq] at this
    exact .inr (by rw [this.1]; rfl)
  · by_cases hroom : n + m ≤ cap
    · have hfit : n * i.size + news.length ≤ cur.size := by rw [hl, hcs, ← Nat.add_mul]; exact Nat.mul_le_mul_right _ hroom
      have := run_append_room (P := Try.prog) w t ty e i ht hi g n cap cur hg a m c news hl hnews h1 hroom hfit
      rw [hr] at this
      simp only [Result.ok.injEq] at this
      exact .inl (by rw [this.1]; rfl)
    · have := run_append_grow (P := Try.prog) w t ty e i z ht hi hz ⟨g, 0, none⟩ n cap xs hown.1 (hown.cells (g := g) rfl) a m c news hl hnews (by omega) (by omega) (growslice_fits (by omega) hbytes)
      rw [hr] at this
      simp only [Result.ok.injEq] at this
      exact .inr (by rw [this.1]; rfl)

theorem oper_append_els {α : Type} (f : α → List Value) (n bytes : Nat) (t e : TypeId) (z : Value) (hu : Try.prog.underlying t = some (.slice e)) (hinfo : (Try.prog.info? e).map (fun i => (i.zero, i.size, i.bytes)) = some (some z, n, bytes)) (hzs : z.cells.size = n) (hn : 0 < n) (hf : ∀ x, (f x).length = n) (hby : bytes ≤ 1000)
    {w : World} {o : Oper} {a : Act} {K : Act → World → Prop} {Q : Exit → Act → World → Prop} (s x : Operand)
    (ho : o.op = .call { callee := .builtin .append, args := #[s, x], argTypes := #[t, t] })
    (base : Nat) (v : Value) (l : List α) (hs : a.eval s = v) (hown : w.ownsRow base e n v l.length (l.flatMap f))
    (ad : Addr) (m c : Nat) (news : List α) (hx : a.eval x = .slice (some ad) m c) (hml : m = news.length) (hc : ∀ j u, (news.flatMap f)[j]? = some u → w.cell? (ad.add j) = some u) (h1 : ∀ u ∈ news.flatMap f, u.oneCell' = true)
    (hm : 0 < m) (hlen : l.length + m ≤ 1000000) (hbase : base ≤ w.heap.size)
    (h : ∀ v' w', w'.ownsRow base e n v' (l ++ news).length ((l ++ news).flatMap f) → w.grownBy w' v.ownBlock → (v'.ownBlock = v.ownBlock ∨ v'.ownBlock = some w.heap.size) → K (a.put o.dst v') w') : Oper.wp Try.prog o a w K Q := by
  obtain ⟨i0, hi, hz0, hz1, hz2⟩ := info_parts hinfo
  subst hml
  have hl : (news.flatMap f).length = news.length * n := flat_length f n hf news
  have hbb : (l.length + news.length) * bytes ≤ 140737488355328 := Nat.le_trans (Nat.mul_le_mul hlen hby) (by decide)
  have h63 : l.length + news.length ≤ maxLen := by unfold maxLen; omega
  obtain ⟨v', w', hr, h2, h3, -⟩ := run_append_own (P := Try.prog) w base t o.type e i0 z n bytes hu hi hz0 hz1 hz2 hzs hn v _ _ hown ad news.length c _ hl hc h1 h63 hbb hbase
  have h4 := run_append_block w base t o.type e i0 z n bytes hu hi hz0 hz1 hz2 v _ _ hown ad news.length c _ hl hc h1 hm h63 hbb v' w' hr
  unfold Oper.wp execOp
  simp only [ho, resolve, invoke, builtin, Sem.run_bind, Sem.run_pure, Result.andThen_ok, List.map_toArray, List.map_cons, List.map_nil, hs, hx, hr]
  refine h v' w' ?_ h3 h4
  rw [List.length_append, List.flatMap_append]
  exact h2
theorem wp_append_els {α : Type} (f : α → List Value) (n bytes : Nat) (t e : TypeId) (z : Value) (hu : Try.prog.underlying t = some (.slice e)) (hinfo : (Try.prog.info? e).map (fun i => (i.zero, i.size, i.bytes)) = some (some z, n, bytes)) (hzs : z.cells.size = n) (hn : 0 < n) (hf : ∀ x, (f x).length = n) (hby : bytes ≤ 1000)
    {w : World} {ops : Array Oper} {rest : List Oper} {o : Oper} {a : Act} {Q : Exit → Act → World → Prop} (hgd : o.guard = none) (s x : Operand)
    (ho : o.op = .call { callee := .builtin .append, args := #[s, x], argTypes := #[t, t] })
    (base : Nat) (v : Value) (l : List α) (hs : a.eval s = v) (hown : w.ownsRow base e n v l.length (l.flatMap f))
    (ad : Addr) (m c : Nat) (news : List α) (hx : a.eval x = .slice (some ad) m c) (hml : m = news.length) (hc : ∀ j u, (news.flatMap f)[j]? = some u → w.cell? (ad.add j) = some u) (h1 : ∀ u ∈ news.flatMap f, u.oneCell' = true)
    (hm : 0 < m) (hlen : l.length + m ≤ 1000000) (hbase : base ≤ w.heap.size)
    (h : ∀ v' w', w'.ownsRow base e n v' (l ++ news).length ((l ++ news).flatMap f) → w.grownBy w' v.ownBlock → (v'.ownBlock = v.ownBlock ∨ v'.ownBlock = some w.heap.size) → wpList Try.prog ops Q rest (a.put o.dst v') w') : wpList Try.prog ops Q (o :: rest) a w :=
  wpList_plain hgd fun _ hK => oper_append_els f n bytes t e z hu hinfo hzs hn hf hby s x ho base v l hs hown ad m c news hx hml hc h1 hm hlen hbase fun v' w' h2 h3 h4 => hK _ _ (h v' w' h2 h3 h4)
theorem step_append_els {α : Type} (f : α → List Value) (n bytes : Nat) (t e : TypeId) (z : Value) (hu : Try.prog.underlying t = some (.slice e)) (hinfo : (Try.prog.info? e).map (fun i => (i.zero, i.size, i.bytes)) = some (some z, n, bytes)) (hzs : z.cells.size = n) (hn : 0 < n) (hf : ∀ x, (f x).length = n) (hby : bytes ≤ 1000)
    {w : World} {ops : Array Oper} {o : Oper} {a : Act} {K : Act → World → Prop} {Q : Exit → Act → World → Prop} {E : Prop} (hgd : o.guard = none) (s x : Operand)
    (ho : o.op = .call { callee := .builtin .append, args := #[s, x], argTypes := #[t, t] })
    (base : Nat) (v : Value) (l : List α) (hs : a.eval s = v) (hown : w.ownsRow base e n v l.length (l.flatMap f))
    (ad : Addr) (m c : Nat) (news : List α) (hx : a.eval x = .slice (some ad) m c) (hml : m = news.length) (hc : ∀ j u, (news.flatMap f)[j]? = some u → w.cell? (ad.add j) = some u) (h1 : ∀ u ∈ news.flatMap f, u.oneCell' = true)
    (hm : 0 < m) (hlen : l.length + m ≤ 1000000) (hbase : base ≤ w.heap.size)
    (h : ∀ v' w', w'.ownsRow base e n v' (l ++ news).length ((l ++ news).flatMap f) → w.grownBy w' v.ownBlock → (v'.ownBlock = v.ownBlock ∨ v'.ownBlock = some w.heap.size) → K (a.put o.dst v') w') :
    if Region.wanted o (yielded ops a.tmps) = true then Oper.wp Try.prog o a w K Q else E := by
  have hw : Region.wanted o (yielded ops a.tmps) = true := by simp [Region.wanted, hgd]
  rw [if_pos hw]
  exact oper_append_els f n bytes t e z hu hinfo hzs hn hf hby s x ho base v l hs hown ad m c news hx hml hc h1 hm hlen hbase h

/-- one element, where it lies -/
theorem news_one {α : Type} (f : α → List Value) (u : α) {w : World} {g : Nat} {cs : Array Value} {e : TypeId} (hh : w.heap[g]? = some (.cells cs e (0, 0))) (hc : cs.toList = f u) : ∀ j x, ([u].flatMap f)[j]? = some x → w.cell? ((⟨g, 0, none⟩ : Addr).add j) = some x := by
  intro j x hj
  simp only [List.flatMap_cons, List.flatMap_nil, List.append_nil] at hj
  rw [Addr.add_lit, Nat.zero_add]
  refine cell_of_heap hh ?_
  rw [← Array.getElem?_toList, hc]
  exact hj
theorem owns_slice {w : World} {base : Nat} {e : TypeId} {size : Nat} {v : Value} {n : Nat} {xs : List Value} (h : w.ownsRow base e size v n xs) : ∃ a n c, v = .slice a n c := by
  rcases h.2 with ⟨rfl, _⟩ | ⟨g, cap, cur, rfl, _⟩
  · exact ⟨_, _, _, rfl⟩
  · exact ⟨_, _, _, rfl⟩
theorem owns_later {w w' : World} {base : Nat} {e : TypeId} {n m : Nat} {v : Value} {xs : List Value} (h : w.ownsRow base e n v m xs) (hb : Below w.heap.size w w') : w'.ownsRow base e n v m xs := (Fr.of (base := 0) (T := []) hb).owns h (by simp)
theorem any_false_of {α : Type} {p : α → Bool} {l : List α} (h : ∀ j x, j < l.length → l[j]? = some x → p x = false) : l.any p = false := by
  rw [List.any_eq_false]
  intro x hx hc
  obtain ⟨i, hi⟩ := List.getElem?_of_mem hx
  rw [h i x (List.getElem?_eq_some_iff.1 hi).1 hi] at hc
  cases hc
theorem any_true_of {α : Type} {p : α → Bool} {l : List α} {k : Nat} {x : α} (h : l[k]? = some x) (hp : p x = true) : l.any p = true := List.any_eq_true.2 ⟨x, List.mem_of_getElem? h, hp⟩
theorem next_false {α : Type} {p : α → Bool} {l : List α} {k : Nat} {x : α} (h : ∀ j y, j < k → l[j]? = some y → p y = false) (hx : l[k]? = some x) (hp : p x = false) : ∀ j y, j < k + 1 → l[j]? = some y → p y = false := by
  intro j y hj hy
  by_cases e : j = k
  · rw [e, hx] at hy; simp only [Option.some.injEq] at hy; rw [← hy]; exact hp
  · exact h j y (by omega) hy

theorem owns_mono {w : World} {base b2 : Nat} {e : TypeId} {size : Nat} {v : Value} {n : Nat} {xs : List Value} (h : w.ownsRow base e size v n xs) (hb : b2 ≤ base) : w.ownsRow b2 e size v n xs := by
  obtain ⟨h1, h2⟩ := h
  refine ⟨h1, ?_⟩
  rcases h2 with h2 | ⟨g, cap, cur, hv, hg, hx⟩
  · exact .inl h2
  · exact .inr ⟨g, cap, cur, hv, by omega, hx⟩

theorem take_map {α β : Type} (f : α → β) {l : List α} {k : Nat} {x : α} (h : l[k]? = some x) : (l.take (k + 1)).map f = (l.take k).map f ++ [f x] := by
  have hk := (List.getElem?_eq_some_iff.1 h).1
  rw [List.take_succ_eq_append_getElem hk, List.map_append]
  rw [List.getElem?_eq_getElem hk] at h
  simp only [Option.some.injEq] at h
  rw [h]
  rfl

end Go.Proofs.Ytlefaicdcomkjaa
