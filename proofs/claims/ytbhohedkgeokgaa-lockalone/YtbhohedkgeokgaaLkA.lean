/- Spans and rows in memory; what a call leaves as it was. -/
import Derived.Test.YtbhohedkgeokgaaLkM
import Derived.Test.YtbhohedkgeokgaaVec
import Derived.Laws.StructEq
import Derived.Handy
namespace Go.Proofs.Ytbhohedkgeokgaa
open Go.RowKit
set_option linter.unusedVariables false
set_option linter.unusedSimpArgs false

/-- the type of a block's cells -/
def tagOf (w : World) (k : Nat) : Option Nat := match w.heap[k]? with
  | some (.cells _ t _) => some t
  | _ => none
theorem tagOf_heap {w : World} {k : Nat} {cs : Array Value} {t : TypeId} {m : Nat × Nat} (h : w.heap[k]? = some (.cells cs t m)) : tagOf w k = some t := by simp [tagOf, h]
theorem tagOf_same {w w' : World} {k : Nat} (h : w'.heap[k]? = w.heap[k]?) : tagOf w' k = tagOf w k := by simp [tagOf, h]
/-- nothing is written but blocks of these types, from 'base' on -/
structure Fr (base : Nat) (T : List Nat) (w w' : World) : Prop where
  os : w'.os = w.os
  tape : w'.tape = w.tape
  output : w'.output = w.output
  size : w.heap.size ≤ w'.heap.size
  block : ∀ k, k < w.heap.size → (k < base ∨ ∀ t ∈ T, tagOf w k ≠ some t) → w'.heap[k]? = w.heap[k]?
theorem Fr.refl (base : Nat) (T : List Nat) (w : World) : Fr base T w w := ⟨rfl, rfl, rfl, Nat.le_refl _, fun _ _ _ => rfl⟩
theorem Fr.trans {base : Nat} {T : List Nat} {a b c : World} (h : Fr base T a b) (k : Fr base T b c) : Fr base T a c := by
  refine ⟨k.os.trans h.os, k.tape.trans h.tape, k.output.trans h.output, Nat.le_trans h.size k.size, fun i hi hc => ?_⟩
  have e := h.block i hi hc
  exact (k.block i (by have := h.size; omega) (hc.imp id (fun hc t ht => by rw [tagOf_same e]; exact hc t ht))).trans e
theorem Fr.below {base : Nat} {T : List Nat} {w w' : World} (h : Fr base T w w') (hb : base ≤ w.heap.size) : Below base w w' := ⟨h.os, h.tape, h.output, h.size, fun k hk => h.block k (by omega) (.inl hk)⟩
theorem Fr.of {base : Nat} {T : List Nat} {w w' : World} (h : Below w.heap.size w w') : Fr base T w w' := ⟨h.os, h.tape, h.output, h.size, fun k hk _ => h.block k hk⟩
theorem Fr.grown {base : Nat} {T : List Nat} {w w' : World} {row : Option Nat} (h : w.grownBy w' row) (hr : ∀ k, row = some k → base ≤ k ∧ ∃ t ∈ T, tagOf w k = some t) : Fr base T w w' := by
  refine ⟨h.os, h.tape, h.output, h.size, fun k hk hc => h.block k hk (fun e => ?_)⟩
  obtain ⟨h1, t, h2, h3⟩ := hr k e.symm
  rcases hc with hc | hc
  · omega
  · exact hc t h2 h3
theorem Fr.setCell {base : Nat} {T : List Nat} {w : World} {a : Addr} (u : Value) (h1 : base ≤ a.block) {t : Nat} (h2 : t ∈ T) (h3 : tagOf w a.block = some t) : Fr base T w (w.setCell a u) := by
  refine ⟨rfl, rfl, rfl, by simp [World.setCell], fun k hk hc => Below.heap_setCell _ _ _ _ (fun e => ?_)⟩
  rcases hc with hc | hc
  · omega
  · exact hc t h2 (by rw [e]; exact h3)
theorem Fr.sub {base : Nat} {T U : List Nat} {w w' : World} (h : Fr base T w w') (hs : ∀ t ∈ T, t ∈ U) : Fr base U w w' := ⟨h.os, h.tape, h.output, h.size, fun k hk hc => h.block k hk (hc.imp id (fun hc t ht => hc t (hs t ht)))⟩
theorem Fr.owns {base b2 : Nat} {T : List Nat} {w w' : World} {e : TypeId} {size : Nat} {v : Value} {n : Nat} {xs : List Value} (h : Fr base T w w') (ho : w.ownsRow b2 e size v n xs) (he : e ∉ T) : w'.ownsRow b2 e size v n xs := by
  obtain ⟨h1, h2⟩ := ho
  refine ⟨h1, ?_⟩
  rcases h2 with h2 | ⟨g, cap, cur, hv, hg, hh, hn⟩
  · exact .inl h2
  · refine .inr ⟨g, cap, cur, hv, hg, ?_, hn⟩
    rw [h.block g (Array.getElem?_eq_some_iff.1 hh).1 (.inr (fun t ht => by rw [tagOf_heap hh]; intro e; simp at e; rw [e] at he; exact he ht))]
    exact hh
theorem Fr.cells {base : Nat} {T : List Nat} {w w' : World} {g : Nat} {cs : Array Value} {t : TypeId} {m : Nat × Nat} (h : Fr base T w w') (hh : w.heap[g]? = some (.cells cs t m)) (he : t ∉ T) : w'.heap[g]? = some (.cells cs t m) := by
  rw [h.block g (Array.getElem?_eq_some_iff.1 hh).1 (.inr (fun t' ht => by rw [tagOf_heap hh]; intro e; simp at e; rw [e] at he; exact he ht))]
  exact hh

/-- texts that somebody has made, as a slice -/
structure SR (w : World) (v : Value) (l : List ByteArray) : Prop where
  own : w.ownsRow 0 9 1 v l.length (l.map Value.string)
  few : l.length ≤ 6
  small : ∀ s ∈ l, s.size ≤ 40
theorem SR.fr {base : Nat} {T : List Nat} {w w' : World} {v : Value} {l : List ByteArray} (h : SR w v l) (f : Fr base T w w') (he : 9 ∉ T) : SR w' v l := ⟨f.owns h.own he, h.few, h.small⟩
theorem SR.later {w w' : World} {v : Value} {l : List ByteArray} (h : SR w v l) (f : Below w.heap.size w w') : SR w' v l := h.fr (Fr.of (base := 0) (T := []) f) (by simp)
theorem SR.nil (w : World) : SR w (.slice none 0 0) [] := ⟨World.ownsRow_nil _ _ _ _, by simp, by simp⟩
theorem SR.slice {w : World} {v : Value} {l : List ByteArray} (h : SR w v l) : ∃ a c, v = .slice a l.length c ∧ l.length ≤ c ∧ c ≤ maxLen ∧ (a = none → c = 0 ∧ l = []) := by
  rcases h.own.2 with ⟨rfl, hn⟩ | ⟨g, cap, cur, rfl, hg, hh, hn, hm, _⟩
  · have e := List.length_eq_zero_iff.1 hn
    subst e
    exact ⟨none, 0, rfl, by simp, by simp, by simp⟩
  · exact ⟨_, cap, rfl, hn, hm, by simp⟩
theorem SR.at {w : World} {a : Option Addr} {c : Nat} {l : List ByteArray} (h : SR w (.slice a l.length c) l) (hl : 0 < l.length) : ∃ b off, a = some ⟨b, off, none⟩ ∧ ∀ i, i < l.length → w.cell? ⟨b, off + i, none⟩ = some (.string (l[i]?.getD ⟨#[]⟩)) := by
  rcases h.own.2 with ⟨e, hn⟩ | ⟨g, cap, cur, e, hg, hh, hn, hm, hs, ht⟩
  · omega
  · simp only [Value.slice.injEq] at e
    obtain ⟨rfl, -, rfl⟩ := e
    refine ⟨g, 0, rfl, fun i hi => ?_⟩
    rw [Nat.zero_add]
    refine cell_of_heap hh ?_
    have e : (cur.toList.take (l.length * 1))[i]? = (l.map Value.string)[i]? := by rw [ht]
    rw [List.getElem?_take_of_lt (by omega), Array.getElem?_toList] at e
    rw [e]
    simp [hi]

/-- cells of elements, one behind the other -/
theorem flat_length {α : Type} (f : α → List Value) (n : Nat) (hf : ∀ x, (f x).length = n) (l : List α) : (l.flatMap f).length = l.length * n := by
  induction l with
  | nil => simp
  | cons x l ih => rw [List.flatMap_cons, List.length_append, ih, hf, List.length_cons, Nat.succ_mul]; omega
theorem flat_at {α : Type} (f : α → List Value) (n : Nat) (hf : ∀ x, (f x).length = n) (l : List α) : ∀ i k x, l[i]? = some x → k < n → (l.flatMap f)[i * n + k]? = (f x)[k]? := by
  induction l with
  | nil => intro i k x h; simp at h
  | cons y l ih =>
    intro i k x h hk
    rw [List.flatMap_cons]
    cases i with
    | zero => simp at h; subst h; rw [List.getElem?_append_left (by rw [hf]; omega)]; simp
    | succ i =>
      rw [List.getElem?_append_right (by rw [hf, Nat.succ_mul]; omega), hf, show (i + 1) * n + k - n = i * n + k by rw [Nat.succ_mul]; omega]
      exact ih i k x (by simpa using h) hk
/-- such elements, where a slice that was made lies -/
theorem owns_at {α : Type} (f : α → List Value) (n : Nat) (hf : ∀ x, (f x).length = n) {w : World} {base : Nat} {e : TypeId} {v : Value} {l : List α} (h : w.ownsRow base e n v l.length (l.flatMap f)) :
    ∃ a c, v = .slice a l.length c ∧ l.length ≤ c ∧ c ≤ maxLen ∧ (a = none → c = 0 ∧ l = []) ∧ (0 < l.length → ∃ b off, a = some ⟨b, off, none⟩ ∧ ∀ i x, l[i]? = some x → ∀ k, k < n → w.cell? ⟨b, off + i * n + k, none⟩ = (f x)[k]?) := by
  rcases h.2 with ⟨rfl, hn⟩ | ⟨g, cap, cur, rfl, hg, hh, hn, hm, hs, ht⟩
  · have e := List.length_eq_zero_iff.1 hn
    subst e
    exact ⟨none, 0, rfl, by simp, by simp, by simp, by simp⟩
  · refine ⟨_, cap, rfl, hn, hm, by simp, fun _ => ⟨g, 0, rfl, fun i x hx k hk => ?_⟩⟩
    have hi : i < l.length := (List.getElem?_eq_some_iff.1 hx).1
    have hlt : i * n + k < l.length * n := by
      have : (i + 1) * n ≤ l.length * n := Nat.mul_le_mul_right n hi
      rw [Nat.succ_mul] at this
      omega
    have e : (cur.toList.take (l.length * n))[i * n + k]? = (l.flatMap f)[i * n + k]? := by rw [ht]
    rw [List.getElem?_take_of_lt hlt, Array.getElem?_toList, flat_at f n hf l i k x hx hk] at e
    have hk2 : k < (f x).length := by rw [hf]; exact hk
    rw [List.getElem?_eq_getElem hk2] at e ⊢
    rw [Nat.zero_add]
    exact cell_of_heap hh e

/-- an ID as a value -/
abbrev idv (x : Id) : Value := .agg #[.int .i64 x.1, .int .u64 x.2]
def Spn.cells (s : Spn) : List Value := [.int .i64 s.id.1, .int .u64 s.id.2, .int .i64 s.at_, .int .i64 s.till, s.rv, s.wv]
abbrev Spn.value (s : Spn) : Value := .agg #[.int .i64 s.id.1, .int .u64 s.id.2, .int .i64 s.at_, .int .i64 s.till, s.rv, s.wv]
/-- spans, as a slice that was made -/
structure SpO (w : World) (base : Nat) (v : Value) (l : List Spn) : Prop where
  own : w.ownsRow base 58 6 v l.length (l.flatMap Spn.cells)
  keys : ∀ s ∈ l, SR w s.rv s.rd ∧ SR w s.wv s.wr
theorem SpO.nil (w : World) (base : Nat) : SpO w base (.slice none 0 0) [] := ⟨World.ownsRow_nil _ _ _ _, by simp⟩
theorem SpO.fr {base b2 : Nat} {T : List Nat} {w w' : World} {v : Value} {l : List Spn} (h : SpO w b2 v l) (f : Fr base T w w') (h9 : 9 ∉ T) (h58 : 58 ∉ T) : SpO w' b2 v l := ⟨f.owns h.own h58, fun s hs => ⟨(h.keys s hs).1.fr f h9, (h.keys s hs).2.fr f h9⟩⟩
theorem SpO.later {b2 : Nat} {w w' : World} {v : Value} {l : List Spn} (h : SpO w b2 v l) (f : Below w.heap.size w w') : SpO w' b2 v l := h.fr (Fr.of (base := 0) (T := []) f) (by simp) (by simp)
/-- a slice of spans, its elements -/
theorem SpO.at {w : World} {base : Nat} {v : Value} {l : List Spn} (h : SpO w base v l) :
    ∃ a c, v = .slice a l.length c ∧ l.length ≤ c ∧ c ≤ maxLen ∧ (a = none → c = 0 ∧ l = []) ∧ (0 < l.length → ∃ b off, a = some ⟨b, off, none⟩ ∧ ∀ i s, l[i]? = some s → ∃ ra rc wa wc, s.rv = .slice ra s.rd.length rc ∧ s.wv = .slice wa s.wr.length wc ∧ SR w (.slice ra s.rd.length rc) s.rd ∧ SR w (.slice wa s.wr.length wc) s.wr ∧
      w.cell? ⟨b, off + i * 6, none⟩ = some (.int .i64 s.id.1) ∧ w.cell? ⟨b, off + i * 6 + 1, none⟩ = some (.int .u64 s.id.2) ∧ w.cell? ⟨b, off + i * 6 + 2, none⟩ = some (.int .i64 s.at_) ∧ w.cell? ⟨b, off + i * 6 + 3, none⟩ = some (.int .i64 s.till) ∧ w.cell? ⟨b, off + i * 6 + 4, none⟩ = some (.slice ra s.rd.length rc) ∧ w.cell? ⟨b, off + i * 6 + 5, none⟩ = some (.slice wa s.wr.length wc)) := by
  obtain ⟨a, c, h1, h2, h3, h4, h5⟩ := owns_at Spn.cells 6 (fun _ => rfl) h.own
  refine ⟨a, c, h1, h2, h3, h4, fun hl => ?_⟩
  obtain ⟨b, off, h6, h7⟩ := h5 hl
  refine ⟨b, off, h6, fun i s hs => ?_⟩
  obtain ⟨k1, k2⟩ := h.keys s (List.mem_of_getElem? hs)
  obtain ⟨ra, rc, e1, -⟩ := k1.slice
  obtain ⟨wa, wc, e2, -⟩ := k2.slice
  refine ⟨ra, rc, wa, wc, e1, e2, e1 ▸ k1, e2 ▸ k2, h7 i s hs 0 (by omega), h7 i s hs 1 (by omega), h7 i s hs 2 (by omega), h7 i s hs 3 (by omega), ?_, ?_⟩
  · rw [← e1]; exact h7 i s hs 4 (by omega)
  · rw [← e2]; exact h7 i s hs 5 (by omega)
/-- a table in memory -/
structure Tb (w : World) (base g : Nat) (H F : List Spn) (last : Int) : Prop where
  lo : base ≤ g
  box : ∃ hv fv, w.heap[g]? = some (.cells #[hv, fv, .int .i64 last] 54 (0, 0)) ∧ SpO w base hv H ∧ SpO w base fv F ∧ (∀ k, hv.ownBlock = some k → fv.ownBlock ≠ some k)
theorem Tb.fr {base b2 : Nat} {T : List Nat} {w w' : World} {g : Nat} {H F : List Spn} {last : Int} (h : Tb w b2 g H F last) (f : Fr base T w w') (h9 : 9 ∉ T) (h58 : 58 ∉ T) (h54 : 54 ∉ T) : Tb w' b2 g H F last := by
  obtain ⟨hv, fv, h1, h2, h3, h4⟩ := h.box
  exact ⟨h.lo, hv, fv, f.cells h1 h54, h2.fr f h9 h58, h3.fr f h9 h58, h4⟩
theorem Tb.later {b2 : Nat} {w w' : World} {g : Nat} {H F : List Spn} {last : Int} (h : Tb w b2 g H F last) (f : Below w.heap.size w w') : Tb w' b2 g H F last := h.fr (Fr.of (base := 0) (T := []) f) (by simp) (by simp) (by simp)
def Rw.cells (r : Rw) : List Value := [.int .i64 r.id.1, .int .u64 r.id.2, .string r.key, .bool r.wri, .int .i64 r.at_, .int .i64 r.till]
/-- the document's table in memory -/
structure Rt (w : World) (base g : Nat) (L : List Rw) (last : Int) : Prop where
  lo : base ≤ g
  box : ∃ v, w.heap[g]? = some (.cells #[v, .int .i64 last] 28 (0, 0)) ∧ w.ownsRow base 47 6 v L.length (L.flatMap Rw.cells)
theorem Rt.fr {base b2 : Nat} {T : List Nat} {w w' : World} {g : Nat} {L : List Rw} {last : Int} (h : Rt w b2 g L last) (f : Fr base T w w') (h47 : 47 ∉ T) (h28 : 28 ∉ T) : Rt w' b2 g L last := by
  obtain ⟨v, h1, h2⟩ := h.box
  exact ⟨h.lo, v, f.cells h1 h28, f.owns h2 h47⟩
theorem Rt.later {b2 : Nat} {w w' : World} {g : Nat} {L : List Rw} {last : Int} (h : Rt w b2 g L last) (f : Below w.heap.size w w') : Rt w' b2 g L last := h.fr (Fr.of (base := 0) (T := []) f) (by simp) (by simp)

theorem eql_31 (a b : Id) (w : World) : (binOp .eql 31 (idv a) (idv b)).run Try.prog w = .ok (.bool (decide (a = b))) w := by
  have hS : Try.prog.underlying 31 = some (.struct (Try.prog.fieldsOf 31)) := by kernel_rfl
  have hp : Try.prog.stoodInHeld 31 = false := by kernel_rfl
  obtain ⟨a1, a2⟩ := a
  obtain ⟨b1, b2⟩ := b
  rw [run_eql_struct, show (10000 : Nat) = 9999 + 1 from rfl, run_equalIn_agg w 9999 31 _ _ hS hp]
  simp only [Program.fieldsOf, Try.underlying31]
  go_simp
  by_cases h1 : a1 = b1 <;> by_cases h2 : a2 = b2 <;> simp [h1, h2]
theorem neq_31 (a b : Id) (w : World) : (binOp .neq 31 (idv a) (idv b)).run Try.prog w = .ok (.bool (!decide (a = b))) w := by
  have hS : Try.prog.underlying 31 = some (.struct (Try.prog.fieldsOf 31)) := by kernel_rfl
  have hp : Try.prog.stoodInHeld 31 = false := by kernel_rfl
  obtain ⟨a1, a2⟩ := a
  obtain ⟨b1, b2⟩ := b
  rw [run_neq_struct, show (10000 : Nat) = 9999 + 1 from rfl, run_equalIn_agg w 9999 31 _ _ hS hp]
  simp only [Program.fieldsOf, Try.underlying31]
  go_simp
  by_cases h1 : a1 = b1 <;> by_cases h2 : a2 = b2 <;> simp [h1, h2]

set_option maxRecDepth 100000 in
theorem index_any (v : Value) (l : List ByteArray) (key : ByteArray) (w : World) (h : SR w v l) :
    Calls Try.prog 36 #[v, .string key] w fun e w' => ∃ i : Int, e = .returned (.int .i64 i) ∧ (0 ≤ i ↔ key ∈ l) ∧ w' = w := by
  obtain ⟨a, c, rfl, h1, h2, h3⟩ := h.slice
  have hl := h.few
  have HS : Hid (SR w (.slice a l.length c) l) := h
  clear h
  go_enter Try.func36, Try.ntmps36
  go_wp2
  go_loopw [8] (fun t wr => ∃ k : Nat, t = .int .i64 (k : Nat) ∧ k ≤ l.length ∧ Hid (∀ i x, i < k → l[i]? = some x → x ≠ key) ∧ wr = w) (fun t _ => l.length - (intOf t).toNat)
  case atStart => exact ⟨0, rfl, by omega, fun i x hi => by omega, rfl⟩
  case round =>
    obtain ⟨k, rfl, hk, HK, rfl⟩ := hrel
    by_cases hlt : k < l.length
    · obtain ⟨b, off, rfl, hc⟩ := HS.out.at (by omega)
      have c0 := hc k hlt
      clear hc
      have hx : l[k]? = some (l[k]?.getD ⟨#[]⟩) := by rw [List.getElem?_eq_getElem hlt]; rfl
      generalize l[k]?.getD ⟨#[]⟩ = x at c0 hx
      have HX : Hid (l[k]? = some x) := hx
      clear hx
      by_cases he : key = x
      · have hbe : (key.toList == x.toList) = true := by simp [he]
        have HE : Hid (key ∈ l) := by rw [he]; exact List.mem_of_getElem? HX.out
        clear he
        go_wp2
        go_ret
        exact ⟨_, rfl, ⟨fun _ => HE.out, fun _ => by omega⟩, rfl⟩
      · have hbe : (key.toList == x.toList) = false := by rw [key_eq]; simp [he]
        have HK2 : Hid (∀ i y, i < k + 1 → l[i]? = some y → y ≠ key) := fun i y hi hy => by
          by_cases e : i = k
          · rw [e, HX.out] at hy; simp at hy; rw [← hy]; exact fun e => he e.symm
          · exact HK.out i y (by omega) hy
        clear he
        go_wp2
        go_roundw
        case rel => exact ⟨k + 1, by go_num, by omega, HK2, trivial⟩
        case measure => simp [intOf]; omega
    · have HE : Hid (key ∉ l) := fun hm => by
        obtain ⟨i, hi⟩ := List.getElem?_of_mem hm
        have := (List.getElem?_eq_some_iff.1 hi).1
        exact HK.out i key (by omega) hi rfl
      go_wp2
      go_ret
      exact ⟨_, rfl, ⟨fun h => by omega, fun h => absurd h HE.out⟩, rfl⟩
theorem contains_any (v : Value) (l : List ByteArray) (key : ByteArray) (w : World) (h : SR w v l) :
    Calls Try.prog 26 #[v, .string key] w fun e w' => e = .returned (.bool (inK key l)) ∧ w' = w := by
  have h1 := index_any v l key w h
  obtain ⟨a, c, rfl, -⟩ := h.slice
  clear h
  go_enter Try.func26, Try.ntmps26
  go_wp2_with fail
  refine h1.mono ?_
  rintro e w1 ⟨i, rfl, hi, hw⟩
  subst w1
  have e : decide (0 ≤ i) = inK key l := inK_of (by simp [hi])
  have HE : Hid (decide (0 ≤ i) = inK key l) := e
  clear e hi h1
  by_cases h0 : 0 ≤ i
  · go_wp2
    go_ret
    rw [← HE.out]
    simp [h0]
  · go_wp2
    go_ret
    rw [← HE.out]
    simp [h0]
end Go.Proofs.Ytbhohedkgeokgaa
