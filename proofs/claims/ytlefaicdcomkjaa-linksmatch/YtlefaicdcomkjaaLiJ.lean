/- The entries told: told, From, All. -/
import Derived.Test.YtlefaicdcomkjaaLiI
namespace Go.Proofs.Ytlefaicdcomkjaa
open Go Go.RowKit
set_option linter.unusedVariables false
set_option linter.unusedSimpArgs false

/-- the same entry, its lists elsewhere -/
def Rel (x e : Ev) : Prop := ∃ u1 u2, e = { x with v1 := u1, v2 := u2 } ∧ (x.v1 = .slice none 0 0 → u1 = .slice none 0 0) ∧ (x.v2 = .slice none 0 0 → u2 = .slice none 0 0)
theorem Rel.refl (x : Ev) : Rel x x := ⟨x.v1, x.v2, rfl, id, id⟩
theorem Rel.trans {x y z : Ev} (h : Rel x y) (k : Rel y z) : Rel x z := by
  obtain ⟨u1, u2, rfl, a, b⟩ := h
  obtain ⟨v1, v2, rfl, c, d⟩ := k
  exact ⟨v1, v2, rfl, fun e => c (a e), fun e => d (b e)⟩
theorem Rel.flat {a : En} {e : Ev} (h : Rel (flatE a) e) : e = flatE a := by
  obtain ⟨u1, u2, rfl, h1, h2⟩ := h
  rw [h1 rfl, h2 rfl]
  rfl
def Rels (P Q : List Ev) : Prop := Q.length = P.length ∧ ∀ (i : Nat) x e, P[i]? = some x → Q[i]? = some e → Rel x e
theorem Rels.refl (P : List Ev) : Rels P P := ⟨rfl, fun i x e h1 h2 => by rw [h1] at h2; simp only [Option.some.injEq] at h2; rw [← h2]; exact Rel.refl x⟩
theorem Rels.flat {A : Lo} {Q : List Ev} (h : Rels (flatL A) Q) : Q = flatL A := by
  refine List.ext_getElem? fun i => ?_
  cases hx : (flatL A)[i]? with
  | none =>
    have : (flatL A).length ≤ i := List.getElem?_eq_none_iff.1 hx
    rw [List.getElem?_eq_none (by rw [h.1]; exact this)]
  | some x =>
    have hi := (List.getElem?_eq_some_iff.1 hx).1
    have hqi : i < Q.length := by rw [h.1]; exact hi
    have hq : Q[i]? = some Q[i] := List.getElem?_eq_getElem hqi
    have hr := h.2 i x _ hx hq
    rw [hq]
    unfold flatL at hx
    rw [List.getElem?_map] at hx
    cases ha : A[i]? with
    | none => rw [ha] at hx; cases hx
    | some a =>
      rw [ha] at hx
      simp only [Option.map_some, Option.some.injEq] at hx
      rw [← hx] at hr ⊢
      rw [hr.flat]
theorem Rels.set {P Q : List Ev} (h : Rels P Q) {k : Nat} {x e : Ev} (hx : Q[k]? = some x) (hr : Rel x e) : Rels P (Q.set k e) := by
  refine ⟨by rw [List.length_set]; exact h.1, fun i y z hy hz => ?_⟩
  by_cases hi : k = i
  · subst hi
    rw [List.getElem?_set_self (List.getElem?_eq_some_iff.1 hx).1] at hz
    simp only [Option.some.injEq] at hz
    subst hz
    exact (h.2 k y x hy hx).trans hr
  · rw [List.getElem?_set_ne hi] at hz
    exact h.2 i y z hy hz
theorem set_mem {w : World} {Q : List Ev} {k : Nat} {e : Ev} (h : ∀ x ∈ Q, x.mem w) (he : e.mem w) : ∀ x ∈ Q.set k e, x.mem w := by
  intro x hx
  rcases List.mem_or_eq_of_mem_set hx with h1 | h1
  · exact h x h1
  · rw [h1]; exact he

theorem set_in (A C : List Value) (n j : Nat) (v : Value) (h : A.length = n) : (A ++ C).set (n + j) v = A ++ C.set j v := by
  subst h
  rw [List.set_append_right (h := by omega)]
  simp
/-- one entry in its place -/
theorem flat_set (L : List Ev) (k : Nat) (e : Ev) (hk : k < L.length) (x0 x1 x2 x3 x4 x5 x6 x7 x8 x9 : Value) (hc : e.cells = [x0, x1, x2, x3, x4, x5, x6, x7, x8, x9]) :
    (((((((((((L.flatMap Ev.cells).set (k * 10) x0).set (k * 10 + 1) x1).set (k * 10 + 2) x2).set (k * 10 + 3) x3).set (k * 10 + 4) x4).set (k * 10 + 5) x5).set (k * 10 + 6) x6).set (k * 10 + 7) x7).set (k * 10 + 8) x8).set (k * 10 + 9) x9) = (L.set k e).flatMap Ev.cells := by
  have hy : L[k]? = some L[k] := List.getElem?_eq_getElem hk
  have e1 : L = L.take k ++ L[k] :: L.drop (k + 1) := by rw [List.getElem_cons_drop, List.take_append_drop]
  have e2 : L.set k e = L.take k ++ e :: L.drop (k + 1) := List.set_eq_take_append_cons_drop.trans (by rw [if_pos hk])
  generalize L[k] = y at *
  have hA : ((L.take k).flatMap Ev.cells).length = k * 10 := by rw [flat_length Ev.cells 10 (fun _ => rfl), List.length_take, Nat.min_eq_left (by omega)]
  have hL : L.flatMap Ev.cells = (L.take k).flatMap Ev.cells ++ (y.cells ++ (L.drop (k + 1)).flatMap Ev.cells) := by
    have h := congrArg (fun l => l.flatMap Ev.cells) e1
    simp only [List.flatMap_append, List.flatMap_cons] at h
    exact h
  rw [hL, e2, List.flatMap_append, List.flatMap_cons, hc]
  generalize (L.take k).flatMap Ev.cells = A at *
  generalize (L.drop (k + 1)).flatMap Ev.cells = B at *
  have h0 := set_in A (y.cells ++ B) (k * 10) 0 x0 hA
  rw [Nat.add_zero] at h0
  rw [h0]
  rw [set_in A _ (k * 10) 1 x1 hA, set_in A _ (k * 10) 2 x2 hA, set_in A _ (k * 10) 3 x3 hA, set_in A _ (k * 10) 4 x4 hA, set_in A _ (k * 10) 5 x5 hA, set_in A _ (k * 10) 6 x6 hA, set_in A _ (k * 10) 7 x7 hA, set_in A _ (k * 10) 8 x8 hA, set_in A _ (k * 10) 9 x9 hA]
  rfl
theorem put10_row {w : World} {base g cap : Nat} {L : List Ev} (h : w.ownsRow base 45 10 (.slice (some ⟨g, 0, none⟩) L.length cap) L.length (L.flatMap Ev.cells)) (hB : base ≤ g) (k : Nat) (e : Ev) (hk : k < L.length) (x0 x1 x2 x3 x4 x5 x6 x7 x8 x9 : Value) (hc : e.cells = [x0, x1, x2, x3, x4, x5, x6, x7, x8, x9]) :
    ((((((((((w.setCell ⟨g, k * 10, none⟩ (x0)).setCell ⟨g, k * 10 + 1, none⟩ (x1)).setCell ⟨g, k * 10 + 2, none⟩ (x2)).setCell ⟨g, k * 10 + 3, none⟩ (x3)).setCell ⟨g, k * 10 + 4, none⟩ (x4)).setCell ⟨g, k * 10 + 5, none⟩ (x5)).setCell ⟨g, k * 10 + 6, none⟩ (x6)).setCell ⟨g, k * 10 + 7, none⟩ (x7)).setCell ⟨g, k * 10 + 8, none⟩ (x8)).setCell ⟨g, k * 10 + 9, none⟩ (x9)).ownsRow base 45 10 (.slice (some ⟨g, 0, none⟩) (L.set k e).length cap) (L.set k e).length ((L.set k e).flatMap Ev.cells) ∧ Fr base [45] w ((((((((((w.setCell ⟨g, k * 10, none⟩ (x0)).setCell ⟨g, k * 10 + 1, none⟩ (x1)).setCell ⟨g, k * 10 + 2, none⟩ (x2)).setCell ⟨g, k * 10 + 3, none⟩ (x3)).setCell ⟨g, k * 10 + 4, none⟩ (x4)).setCell ⟨g, k * 10 + 5, none⟩ (x5)).setCell ⟨g, k * 10 + 6, none⟩ (x6)).setCell ⟨g, k * 10 + 7, none⟩ (x7)).setCell ⟨g, k * 10 + 8, none⟩ (x8)).setCell ⟨g, k * 10 + 9, none⟩ (x9)) := by
  have hs := flat_set L k e hk x0 x1 x2 x3 x4 x5 x6 x7 x8 x9 hc
  rw [← hs, List.length_set]
  have ht : tagOf w g = some 45 := owns_tag2 h g rfl
  have st : ∀ (w' : World) (xs : List Value) (j : Nat) (u : Value), w'.ownsRow base 45 10 (.slice (some ⟨g, 0, none⟩) L.length cap) L.length xs → (w'.setCell ⟨g, j, none⟩ u).ownsRow base 45 10 (.slice (some ⟨g, 0, none⟩) L.length cap) L.length (xs.set j u) ∧ Fr base [45] w' (w'.setCell ⟨g, j, none⟩ u) := fun w' xs j u h => ⟨(World.ownsRow.stored h j u).1, Fr.setCell u hB (by simp) (owns_tag2 h g rfl)⟩
  have s0 := st w _ (k * 10) x0 h
  have s1 := st _ _ (k * 10 + 1) x1 s0.1
  have s2 := st _ _ (k * 10 + 2) x2 s1.1
  have s3 := st _ _ (k * 10 + 3) x3 s2.1
  have s4 := st _ _ (k * 10 + 4) x4 s3.1
  have s5 := st _ _ (k * 10 + 5) x5 s4.1
  have s6 := st _ _ (k * 10 + 6) x6 s5.1
  have s7 := st _ _ (k * 10 + 7) x7 s6.1
  have s8 := st _ _ (k * 10 + 8) x8 s7.1
  have s9 := st _ _ (k * 10 + 9) x9 s8.1
  exact ⟨s9.1, (((((((((s0.2.trans s1.2).trans s2.2).trans s3.2).trans s4.2).trans s5.2).trans s6.2).trans s7.2).trans s8.2).trans s9.2)⟩

/-- a piece of a log's entries -/
def piece (L : List Ev) (f t : Nat) : List Ev := (L.drop f).take (t - f)
theorem piece_len (L : List Ev) (f t : Nat) (h : t ≤ L.length) : (piece L f t).length = t - f := by simp [piece]; omega
theorem piece_at {w : World} {b : Nat} {L : List Ev} {c : Nat} (h : w.ownsRow 0 45 10 (.slice (some ⟨b, 0, none⟩) L.length c) L.length (L.flatMap Ev.cells)) (f t : Nat) (h1 : f ≤ t) (h2 : t ≤ L.length) (h3 : L.length ≤ c) :
    ∃ A, (if c = f then (some ⟨b, 0, none⟩ : Option Addr) else some ⟨b, f * 10, none⟩) = some A ∧ At Ev.cells w (some A) (piece L f t) := by
  by_cases hc : c = f
  · refine ⟨⟨b, 0, none⟩, by rw [if_pos hc], fun e => (by cases e), fun ad e => ?_⟩
    simp only [Option.some.injEq] at e
    subst e
    refine ⟨rfl, fun j u hu => ?_⟩
    have : piece L f t = [] := List.length_eq_zero_iff.1 (by rw [piece_len L f t h2]; omega)
    rw [this] at hu
    simp at hu
  · refine ⟨⟨b, f * 10, none⟩, by rw [if_neg hc], fun e => (by cases e), fun ad e => ?_⟩
    simp only [Option.some.injEq] at e
    subst e
    refine ⟨rfl, fun j u hu => ?_⟩
    have hat := (At.of h).2 _ rfl
    have e1 : (L.flatMap Ev.cells)[f * 10 + j]? = some u := by
      have e2 : L.flatMap Ev.cells = (L.take f).flatMap Ev.cells ++ ((piece L f t).flatMap Ev.cells ++ ((L.drop f).drop (t - f)).flatMap Ev.cells) := by
        rw [← List.flatMap_append, ← List.flatMap_append, piece, List.take_append_drop, List.take_append_drop]
      have hl : ((L.take f).flatMap Ev.cells).length = f * 10 := by rw [flat_length Ev.cells 10 (fun _ => rfl), List.length_take, Nat.min_eq_left (by omega)]
      rw [e2, List.getElem?_append_right (by omega), hl, Nat.add_sub_cancel_left, List.getElem?_append_left (List.getElem?_eq_some_iff.1 hu).1]
      exact hu
    have := hat.2 _ _ e1
    rw [Addr.add_lit] at this ⊢
    rw [Nat.zero_add] at this
    exact this
theorem piece_mem {L : List Ev} {f t : Nat} {e : Ev} (h : e ∈ piece L f t) : e ∈ L := List.mem_of_mem_drop (List.mem_of_mem_take h)
set_option maxRecDepth 100000 in
set_option maxHeartbeats 8000000 in
theorem told_some (g : Nat) (ob : Option Nat) (L : List Ev) (b c f t : Nat) (w : World) (h : Lg w g ob L) (hc0 : w.cell? ⟨g, 0, none⟩ = some (.slice (some ⟨b, 0, none⟩) L.length c)) (ho : w.ownsRow 0 45 10 (.slice (some ⟨b, 0, none⟩) L.length c) L.length (L.flatMap Ev.cells)) (h1 : f ≤ t) (h2 : t ≤ L.length) (h3 : L.length ≤ c) (hm : c ≤ maxLen) (hl : L.length ≤ 1000) :
    Calls Try.prog 33 #[.pointer (some ⟨g, 0, none⟩), .int .i64 (f : Nat), .int .i64 (t : Nat)] w fun e w' => ∃ Q v, e = .returned v ∧ w'.ownsRow w.heap.size 45 10 v Q.length (Q.flatMap Ev.cells) ∧ Rels (piece L f t) Q ∧ (∀ e ∈ Q, e.mem w') ∧ Below w.heap.size w w' := by
  have hm' : c ≤ 2 ^ 63 - 1 := hm
  obtain ⟨A, hA, hat⟩ := piece_at ho f t h1 h2 h3
  have hall := all_any g _ w hc0
  have hcl := cloneE_any (some A) (t - f) (c - f) (piece L f t) w hat (piece_len L f t h2).symm (by rw [piece_len L f t h2]; omega) (evs_one' (w := w) (fun e he => h.mem e (piece_mem he)))
  have HMEM : Hid (∀ e ∈ piece L f t, e.mem w) := fun e he => h.mem e (piece_mem he)
  have HPL : Hid ((piece L f t).length = t - f) := piece_len L f t h2
  have i1 : ((f : Nat) : Int) ≤ (t : Nat) := by omega
  have i2 : ((t : Nat) : Int) ≤ (c : Nat) := by omega
  have i3 : t ≤ c := by omega
  clear hat ho h
  generalize piece L f t = P at *
  go_enter Try.func33, Try.ntmps33
  go_wp2_with (first | (go_at_call 41; refine hall.mono ?_; rintro e wz ⟨rfl, hwz⟩; subst wz) | (go_at_call 45; refine hcl.mono ?_; rintro e w1 ⟨⟨u, rfl, hou, -⟩, hb⟩; obtain ⟨ua, un, uc, rfl⟩ := owns_slice hou; have HO1 : Hid (w1.ownsRow w.heap.size 45 10 (.slice ua un uc) P.length (P.flatMap Ev.cells)) := hou; have HB1 : Hid (Below w.heap.size w w1) := hb; clear hou hb) | fail)
  have hun : un = P.length := by
    obtain ⟨a9, c9, e9, -⟩ := owns_at Ev.cells 10 (fun _ => rfl) HO1.out
    simp only [Value.slice.injEq] at e9
    exact e9.2.1
  have HUN : Hid (un = P.length) := hun
  have hPl : P.length ≤ 1000 := by have := HPL.out; omega
  have hun2 : un ≤ 1000 := by omega
  clear hun hPl hA hm hm' h1 h2 h3 i1 i2 i3 hcl hall
  generalize hp : w.heap.size = p at *
  have HP : Hid (w.heap.size = p) := hp
  clear hp
  go_wp2
  go_loopw [8, 18] (fun _ t wr => ∃ k : Nat, t = .int .i64 (k : Nat) ∧ k ≤ un ∧ Hid (∃ Q, wr.ownsRow p 45 10 (.slice ua un uc) Q.length (Q.flatMap Ev.cells) ∧ Rels P Q ∧ ∀ e ∈ Q, e.mem wr) ∧ Hid (Below p w wr)) (fun _ t _ => un - (intOf t).toNat)
  case atStart => exact ⟨0, rfl, by omega, ⟨P, HO1.out, Rels.refl P, fun e he => (HMEM.out e he).later (by rw [HP.out]; exact HB1.out)⟩, HB1.out⟩
  case round =>
    obtain ⟨k, rfl, hk, HR, HW⟩ := hrel
    obtain ⟨Q, hq1, hq2, hq3⟩ := HR.out
    have HQ1 : Hid (wr.ownsRow p 45 10 (.slice ua un uc) Q.length (Q.flatMap Ev.cells)) := hq1
    have HQ2 : Hid (Rels P Q) := hq2
    have HQ3 : Hid (∀ e ∈ Q, e.mem wr) := hq3
    have HQL : Hid (un = Q.length) := by rw [Hid, hq2.1]; exact HUN.out
    clear HR hq1 hq2 hq3
    by_cases hlt : k < un
    · have hkq : k < Q.length := by have := HQL.out; omega
      obtain ⟨gb, rfl, hgb, hgl⟩ : ∃ gb, ua = some ⟨gb, 0, none⟩ ∧ p ≤ gb ∧ gb < wr.heap.size := by
        rcases HQ1.out.2 with ⟨_, h0⟩ | ⟨q, cap, cur, hv, hg, hh, _⟩
        · omega
        · simp only [Value.slice.injEq] at hv
          exact ⟨q, hv.1, hg, (Array.getElem?_eq_some_iff.1 hh).1⟩
      have hx : Q[k]? = some Q[k] := List.getElem?_eq_getElem hkq
      generalize Q[k] = x at hx
      have HX : Hid (Q[k]? = some x) := hx
      have HXM : Hid (x.mem wr) := HQ3.out x (List.mem_of_getElem? hx)
      have hcell : ∀ j, j < 10 → wr.cell? ⟨gb, k * 10 + j, none⟩ = (Ev.cells x)[j]? := by
        intro j hj
        obtain ⟨a9, c9, e9, -, -, -, h9⟩ := owns_at Ev.cells 10 (fun _ => rfl) HQ1.out
        simp only [Value.slice.injEq] at e9
        obtain ⟨b9, off9, e10, h10⟩ := h9 (by omega)
        have := h10 k x hx j hj
        rw [← e9.1] at e10
        simp only [Option.some.injEq, Addr.mk.injEq] at e10
        obtain ⟨rfl, rfl, _⟩ := e10
        rw [Nat.zero_add] at this
        exact this
      obtain ⟨ep, kd, ⟨t1, t2⟩, pl, va, vb, ⟨i1, i2⟩, cd, l1, l2⟩ := x
      have hra : wr.ownsRow 0 95 2 va l1.length (l1.flatMap Rdv.cells) := HXM.out.r
      have hrb : wr.ownsRow 0 98 3 vb l2.length (l2.flatMap Wrv.cells) := HXM.out.w
      obtain ⟨a1, n1, c1, rfl⟩ := owns_slice hra
      obtain ⟨a2, n2, c2, rfl⟩ := owns_slice hrb
      clear hra hrb
      have d0 : wr.cell? ⟨gb, k * 10, none⟩ = some (.int .u64 ep) := hcell 0 (by omega)
      have d1 : wr.cell? ⟨gb, k * 10 + 1, none⟩ = some (.int .i64 kd) := hcell 1 (by omega)
      have d2 : wr.cell? ⟨gb, k * 10 + 2, none⟩ = some (.int .i64 t1) := hcell 2 (by omega)
      have d3 : wr.cell? ⟨gb, k * 10 + 3, none⟩ = some (.int .u64 t2) := hcell 3 (by omega)
      have d4 : wr.cell? ⟨gb, k * 10 + 4, none⟩ = some (.bool pl) := hcell 4 (by omega)
      have d5 : wr.cell? ⟨gb, k * 10 + 5, none⟩ = some (.slice a1 n1 c1) := hcell 5 (by omega)
      have d6 : wr.cell? ⟨gb, k * 10 + 6, none⟩ = some (.slice a2 n2 c2) := hcell 6 (by omega)
      have d7 : wr.cell? ⟨gb, k * 10 + 7, none⟩ = some (.int .i64 i1) := hcell 7 (by omega)
      have d8 : wr.cell? ⟨gb, k * 10 + 8, none⟩ = some (.int .u64 i2) := hcell 8 (by omega)
      have d9 : wr.cell? ⟨gb, k * 10 + 9, none⟩ = some (.int .i64 cd) := hcell 9 (by omega)
      clear hcell hx hkq
      have ha : Below wr.heap.size wr (wr.alloc (.cells #[.int .u64 ep, .int .i64 kd, .int .i64 t1, .int .u64 t2, .bool pl, .slice a1 n1 c1, .slice a2 n2 c2, .int .i64 i1, .int .u64 i2, .int .i64 cd] 45)) := (Below.refl _ _).alloc (Nat.le_refl _) _
      have HXN : Hid ((wr.alloc (.cells #[.int .u64 ep, .int .i64 kd, .int .i64 t1, .int .u64 t2, .bool pl, .slice a1 n1 c1, .slice a2 n2 c2, .int .i64 i1, .int .u64 i2, .int .i64 cd] 45)).heap[wr.heap.size]? = some (.cells #[.int .u64 ep, .int .i64 kd, .int .i64 t1, .int .u64 t2, .bool pl, .slice a1 n1 c1, .slice a2 n2 c2, .int .i64 i1, .int .u64 i2, .int .i64 cd] 45)) := heap_alloc_new wr _
      have HQA : Hid ((wr.alloc (.cells #[.int .u64 ep, .int .i64 kd, .int .i64 t1, .int .u64 t2, .bool pl, .slice a1 n1 c1, .slice a2 n2 c2, .int .i64 i1, .int .u64 i2, .int .i64 cd] 45)).ownsRow p 45 10 (.slice (some ⟨gb, 0, none⟩) un uc) Q.length (Q.flatMap Ev.cells)) := owns_later HQ1.out ha
      have HQ3A : Hid (∀ e ∈ Q, e.mem (wr.alloc (.cells #[.int .u64 ep, .int .i64 kd, .int .i64 t1, .int .u64 t2, .bool pl, .slice a1 n1 c1, .slice a2 n2 c2, .int .i64 i1, .int .u64 i2, .int .i64 cd] 45))) := fun e he => (HQ3.out e he).later ha
      have HXA : Hid (Ev.mem (wr.alloc (.cells #[.int .u64 ep, .int .i64 kd, .int .i64 t1, .int .u64 t2, .bool pl, .slice a1 n1 c1, .slice a2 n2 c2, .int .i64 i1, .int .u64 i2, .int .i64 cd] 45)) (⟨ep, kd, (t1, t2), pl, .slice a1 n1 c1, .slice a2 n2 c2, (i1, i2), cd, l1, l2⟩ : Ev)) := HXM.out.later ha
      have HWA : Hid (Below p w (wr.alloc (.cells #[.int .u64 ep, .int .i64 kd, .int .i64 t1, .int .u64 t2, .bool pl, .slice a1 n1 c1, .slice a2 n2 c2, .int .i64 i1, .int .u64 i2, .int .i64 cd] 45))) := HW.out.alloc (by omega) _
      clear ha HQ1 HQ3 HXM HW
      go_upto_region 5 with fail
      clear d0 d1 d2 d3 d4 d5 d6 d7 d8 d9
      generalize hw1 : wr.alloc (.cells #[.int .u64 ep, .int .i64 kd, .int .i64 t1, .int .u64 t2, .bool pl, .slice a1 n1 c1, .slice a2 n2 c2, .int .i64 i1, .int .u64 i2, .int .i64 cd] 45) = w1 at *
      clear hw1
      have hpx : gb < w1.heap.size := by
        rcases HQA.out.2 with ⟨h0, _⟩ | ⟨q, cap, cur, hv, hg, hh, _⟩
        · cases h0
        · simp only [Value.slice.injEq, Option.some.injEq, Addr.mk.injEq] at hv
          rw [hv.1.1]; exact (Array.getElem?_eq_some_iff.1 hh).1
      obtain ⟨d0, d1, d2, d3, d4, d5, d6, d7, d8, d9⟩ := ten_cells HXN.out
      have hown := own_any (⟨ep, kd, (t1, t2), pl, .slice a1 n1 c1, .slice a2 n2 c2, (i1, i2), cd, l1, l2⟩ : Ev) w1 HXA.out
      go_wp2_with fail
      refine hown.mono ?_
      clear hown d0 d1 d2 d3 d4 d5 d6 d7 d8 d9
      rintro e w2 ⟨⟨ua, ub, rfl, hm2, hu1, hu2⟩, hb2⟩
      have hra : w2.ownsRow 0 95 2 ua l1.length (l1.flatMap Rdv.cells) := hm2.r
      have hrb : w2.ownsRow 0 98 3 ub l2.length (l2.flatMap Wrv.cells) := hm2.w
      obtain ⟨b1, m1, e1, hx1⟩ := owns_slice hra
      obtain ⟨b2, m2, e2, hx2⟩ := owns_slice hrb
      subst hx1 hx2
      clear hra hrb
      have HE2 : Hid (Ev.mem w2 (⟨ep, kd, (t1, t2), pl, .slice b1 m1 e1, .slice b2 m2 e2, (i1, i2), cd, l1, l2⟩ : Ev)) := hm2
      have HRL : Hid (Rel (⟨ep, kd, (t1, t2), pl, .slice a1 n1 c1, .slice a2 n2 c2, (i1, i2), cd, l1, l2⟩ : Ev) ⟨ep, kd, (t1, t2), pl, .slice b1 m1 e1, .slice b2 m2 e2, (i1, i2), cd, l1, l2⟩) := ⟨_, _, rfl, hu1, hu2⟩
      have HQ2A : Hid (w2.ownsRow p 45 10 (.slice (some ⟨gb, 0, none⟩) un uc) Q.length (Q.flatMap Ev.cells)) := owns_later HQA.out hb2
      have HQ32 : Hid (∀ e ∈ Q, e.mem w2) := fun e he => (HQ3A.out e he).later hb2
      have HW2 : Hid (Below p w w2) := HWA.out.trans (hb2.mono (by omega))
      clear hm2 hu1 hu2 hb2 HQA HQ3A HXA HWA HXN
      obtain ⟨cur, hcur, hfr⟩ : ∃ cur, w2.heap[gb]? = some (.cells cur 45 (0, 0)) ∧ ∀ j, w2.frozen? ⟨gb, j, none⟩ = false := by
        rcases HQ2A.out.2 with ⟨h0, _⟩ | ⟨q, cap, cur, hv, hg, hh, _⟩
        · cases h0
        · simp only [Value.slice.injEq, Option.some.injEq, Addr.mk.injEq] at hv
          obtain ⟨⟨rfl, _⟩, _⟩ := hv
          exact ⟨cur, hh, fun j => frozen_of_row w2 gb j _ 45 hh⟩
      have hcell : ∀ j, j < 10 → w2.cell? ⟨gb, k * 10 + j, none⟩ = (Ev.cells (⟨ep, kd, (t1, t2), pl, .slice a1 n1 c1, .slice a2 n2 c2, (i1, i2), cd, l1, l2⟩ : Ev))[j]? := by
        intro j hj
        obtain ⟨a9, c9, e9, -, -, -, h9⟩ := owns_at Ev.cells 10 (fun _ => rfl) HQ2A.out
        simp only [Value.slice.injEq] at e9
        have hkl := (List.getElem?_eq_some_iff.1 HX.out).1
        obtain ⟨b9, off9, e10, h10⟩ := h9 (by omega)
        have := h10 k _ HX.out j hj
        rw [← e9.1] at e10
        simp only [Option.some.injEq, Addr.mk.injEq] at e10
        obtain ⟨rfl, rfl, _⟩ := e10
        rw [Nat.zero_add] at this
        exact this
      have d0 : w2.cell? ⟨gb, k * 10, none⟩ = some (.int .u64 ep) := hcell 0 (by omega)
      have d1 : w2.cell? ⟨gb, k * 10 + 1, none⟩ = some (.int .i64 kd) := hcell 1 (by omega)
      have d2 : w2.cell? ⟨gb, k * 10 + 2, none⟩ = some (.int .i64 t1) := hcell 2 (by omega)
      have d3 : w2.cell? ⟨gb, k * 10 + 3, none⟩ = some (.int .u64 t2) := hcell 3 (by omega)
      have d4 : w2.cell? ⟨gb, k * 10 + 4, none⟩ = some (.bool pl) := hcell 4 (by omega)
      have d5 : w2.cell? ⟨gb, k * 10 + 5, none⟩ = some (.slice a1 n1 c1) := hcell 5 (by omega)
      have d6 : w2.cell? ⟨gb, k * 10 + 6, none⟩ = some (.slice a2 n2 c2) := hcell 6 (by omega)
      have d7 : w2.cell? ⟨gb, k * 10 + 7, none⟩ = some (.int .i64 i1) := hcell 7 (by omega)
      have d8 : w2.cell? ⟨gb, k * 10 + 8, none⟩ = some (.int .u64 i2) := hcell 8 (by omega)
      have d9 : w2.cell? ⟨gb, k * 10 + 9, none⟩ = some (.int .i64 cd) := hcell 9 (by omega)
      have f0 : w2.frozen? ⟨gb, k * 10, none⟩ = false := hfr _
      have f1 : w2.frozen? ⟨gb, k * 10 + 1, none⟩ = false := hfr _
      have f2 : w2.frozen? ⟨gb, k * 10 + 2, none⟩ = false := hfr _
      have f3 : w2.frozen? ⟨gb, k * 10 + 3, none⟩ = false := hfr _
      have f4 : w2.frozen? ⟨gb, k * 10 + 4, none⟩ = false := hfr _
      have f5 : w2.frozen? ⟨gb, k * 10 + 5, none⟩ = false := hfr _
      have f6 : w2.frozen? ⟨gb, k * 10 + 6, none⟩ = false := hfr _
      have f7 : w2.frozen? ⟨gb, k * 10 + 7, none⟩ = false := hfr _
      have f8 : w2.frozen? ⟨gb, k * 10 + 8, none⟩ = false := hfr _
      have f9 : w2.frozen? ⟨gb, k * 10 + 9, none⟩ = false := hfr _
      have hq9 : w2.ownsRow p 45 10 (.slice (some ⟨gb, 0, none⟩) Q.length uc) Q.length (Q.flatMap Ev.cells) := by
        have h9 := HQ2A.out
        rw [HQL.out] at h9
        exact h9
      have hrow := put10_row hq9 hgb k ⟨ep, kd, (t1, t2), pl, .slice b1 m1 e1, .slice b2 m2 e2, (i1, i2), cd, l1, l2⟩ (by have := HQL.out; omega) (.int .u64 ep) (.int .i64 kd) (.int .i64 t1) (.int .u64 t2) (.bool pl) (.slice b1 m1 e1) (.slice b2 m2 e2) (.int .i64 i1) (.int .u64 i2) (.int .i64 cd) rfl
      clear hq9
      rw [List.length_set, ← HQL.out] at hrow
      have HROW : Hid (((((((((((w2.setCell ⟨gb, k * 10, none⟩ (.int .u64 ep)).setCell ⟨gb, k * 10 + 1, none⟩ (.int .i64 kd)).setCell ⟨gb, k * 10 + 2, none⟩ (.int .i64 t1)).setCell ⟨gb, k * 10 + 3, none⟩ (.int .u64 t2)).setCell ⟨gb, k * 10 + 4, none⟩ (.bool pl)).setCell ⟨gb, k * 10 + 5, none⟩ (.slice b1 m1 e1)).setCell ⟨gb, k * 10 + 6, none⟩ (.slice b2 m2 e2)).setCell ⟨gb, k * 10 + 7, none⟩ (.int .i64 i1)).setCell ⟨gb, k * 10 + 8, none⟩ (.int .u64 i2)).setCell ⟨gb, k * 10 + 9, none⟩ (.int .i64 cd)).ownsRow p 45 10 (.slice (some ⟨gb, 0, none⟩) un uc) (Q.set k ⟨ep, kd, (t1, t2), pl, .slice b1 m1 e1, .slice b2 m2 e2, (i1, i2), cd, l1, l2⟩).length ((Q.set k ⟨ep, kd, (t1, t2), pl, .slice b1 m1 e1, .slice b2 m2 e2, (i1, i2), cd, l1, l2⟩).flatMap Ev.cells)) := by rw [List.length_set, ← HQL.out]; exact hrow.1
      have HMM : Hid (∀ e ∈ Q.set k ⟨ep, kd, (t1, t2), pl, .slice b1 m1 e1, .slice b2 m2 e2, (i1, i2), cd, l1, l2⟩, e.mem ((((((((((w2.setCell ⟨gb, k * 10, none⟩ (.int .u64 ep)).setCell ⟨gb, k * 10 + 1, none⟩ (.int .i64 kd)).setCell ⟨gb, k * 10 + 2, none⟩ (.int .i64 t1)).setCell ⟨gb, k * 10 + 3, none⟩ (.int .u64 t2)).setCell ⟨gb, k * 10 + 4, none⟩ (.bool pl)).setCell ⟨gb, k * 10 + 5, none⟩ (.slice b1 m1 e1)).setCell ⟨gb, k * 10 + 6, none⟩ (.slice b2 m2 e2)).setCell ⟨gb, k * 10 + 7, none⟩ (.int .i64 i1)).setCell ⟨gb, k * 10 + 8, none⟩ (.int .u64 i2)).setCell ⟨gb, k * 10 + 9, none⟩ (.int .i64 cd))) := set_mem (fun x hx => ⟨hrow.2.owns (HQ32.out x hx).r (by decide), hrow.2.owns (HQ32.out x hx).w (by decide), (HQ32.out x hx).f, (HQ32.out x hx).h1, (HQ32.out x hx).h2⟩) ⟨hrow.2.owns HE2.out.r (by decide), hrow.2.owns HE2.out.w (by decide), HE2.out.f, HE2.out.h1, HE2.out.h2⟩
      have HWF : Hid (Below p w ((((((((((w2.setCell ⟨gb, k * 10, none⟩ (.int .u64 ep)).setCell ⟨gb, k * 10 + 1, none⟩ (.int .i64 kd)).setCell ⟨gb, k * 10 + 2, none⟩ (.int .i64 t1)).setCell ⟨gb, k * 10 + 3, none⟩ (.int .u64 t2)).setCell ⟨gb, k * 10 + 4, none⟩ (.bool pl)).setCell ⟨gb, k * 10 + 5, none⟩ (.slice b1 m1 e1)).setCell ⟨gb, k * 10 + 6, none⟩ (.slice b2 m2 e2)).setCell ⟨gb, k * 10 + 7, none⟩ (.int .i64 i1)).setCell ⟨gb, k * 10 + 8, none⟩ (.int .u64 i2)).setCell ⟨gb, k * 10 + 9, none⟩ (.int .i64 cd))) := HW2.out.trans (hrow.2.below (by have h1 := HW2.out.size; have h2 := HP.out; omega))
      have HRS : Hid (Rels P (Q.set k ⟨ep, kd, (t1, t2), pl, .slice b1 m1 e1, .slice b2 m2 e2, (i1, i2), cd, l1, l2⟩)) := HQ2.out.set HX.out HRL.out
      clear hcell hfr hcur hrow HQ2A HQ32 HE2 HRL
      go_wp2
      go_roundw
      case rel => exact ⟨k + 1, by go_num, by omega, ⟨_, HROW.out, HRS.out, HMM.out⟩, HWF.out⟩
      case measure => simp [intOf]; omega
    · go_wp2
      go_ret
      exact ⟨Q, _, rfl, by rw [HP.out]; exact HQ1.out, HQ2.out, HQ3.out, by rw [HP.out]; exact HW.out⟩
end Go.Proofs.Ytlefaicdcomkjaa
