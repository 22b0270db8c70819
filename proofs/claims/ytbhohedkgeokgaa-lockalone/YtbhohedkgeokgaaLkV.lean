/- Nobody holds what somebody else writes: plain mathematics; a row more. -/
import Derived.Test.YtbhohedkgeokgaaLkS
namespace Go.Proofs.Ytbhohedkgeokgaa
open Go Go.RowKit
set_option linter.unusedVariables false
set_option linter.unusedSimpArgs false

theorem row_of {s : Spn} {r : Rw} (h : r ∈ rowsOf s) : r.id = s.id ∧ r.till = s.till ∧ (r.key ≠ ⟨#[]⟩ → (r.wri = true → r.key ∈ s.wr) ∧ (r.key ∈ s.rd ∨ r.key ∈ s.wr)) := by
  simp only [rowsOf, newRows, List.mem_cons, List.mem_append, List.mem_map] at h
  rcases h with rfl | ⟨k, hk, rfl⟩ | ⟨k, hk, rfl⟩
  · exact ⟨rfl, rfl, fun h => absurd rfl h⟩
  · exact ⟨rfl, rfl, fun _ => ⟨fun h => (by cases h), .inl hk⟩⟩
  · exact ⟨rfl, rfl, fun _ => ⟨fun _ => hk, .inr hk⟩⟩
theorem apart_or {G : List Spn} (h : G.Pairwise Apart) {s t : Spn} (hs : s ∈ G) (ht : t ∈ G) : s = t ∨ Apart s t ∨ Apart t s := by
  induction G with
  | nil => cases hs
  | cons r G ih =>
    rw [List.pairwise_cons] at h
    rcases List.mem_cons.1 hs with rfl | hs' <;> rcases List.mem_cons.1 ht with rfl | ht'
    · exact .inl rfl
    · exact .inr (.inl (h.1 t ht'))
    · exact .inr (.inr (h.1 s hs'))
    · exact ih h.2 hs' ht'
theorem alone_rows {G : List Spn} (h : G.Pairwise Apart) {x y : Rw} (hx : x ∈ rowsG G) (hy : y ∈ rowsG G) (h1 : x.till = 0) (h2 : y.till = 0) (h3 : x.key = y.key) (h4 : x.key ≠ ⟨#[]⟩) (h5 : x.wri = true) : x.id = y.id := by
  obtain ⟨s, hs, hxs⟩ := List.mem_flatMap.1 hx
  obtain ⟨t, ht, hyt⟩ := List.mem_flatMap.1 hy
  obtain ⟨a1, a2, a3⟩ := row_of hxs
  obtain ⟨b1, b2, b3⟩ := row_of hyt
  have ks := (a3 h4).1 h5
  have kt := (b3 (by rw [← h3]; exact h4)).2
  rw [← h3] at kt
  have st : s.till = 0 := by rw [← a2]; exact h1
  have tt : t.till = 0 := by rw [← b2]; exact h2
  rcases apart_or h hs ht with e | e | e
  · rw [a1, b1, e]
  · rcases kt with kt | kt
    · exact absurd kt (e.wr st tt _ ks)
    · exact absurd st (e.ww _ ks kt).1
  · rcases kt with kt | kt
    · exact absurd ks (e.rw tt st _ kt)
    · exact absurd tt (e.ww _ kt ks).1

/-- the row of a holder without keys -/
def firstRow (id : Id) (a : Int) : Rw := ⟨id, ⟨#[]⟩, false, a, 0⟩
/-- a row more: memory -/
theorem Rt.add {w w1 : World} {base g : Nat} {L L' : List Rw} {last : Int} {v0 v : Value} (hlo : base ≤ g) (h0 : w.heap[g]? = some (.cells #[v0, .int .i64 last] 28 (0, 0))) (h1 : w.ownsRow base 47 6 v0 L.length (L.flatMap Rw.cells)) (hv : w1.ownsRow base 47 6 v L'.length (L'.flatMap Rw.cells)) (hg : w.grownBy w1 v0.ownBlock) :
    Rt (w1.setCell ⟨g, 0, none⟩ v) base g L' last ∧ Fr base [28, 47] w (w1.setCell ⟨g, 0, none⟩ v) ∧ w1.heap[g]? = some (.cells #[v0, .int .i64 last] 28 (0, 0)) ∧ (∀ k, v0.ownBlock = some k → tagOf w k = some 47) := by
  have hown : ∀ k, v0.ownBlock = some k → base ≤ k ∧ tagOf w k = some 47 := by
    intro k hk
    rcases h1.2 with ⟨e, _⟩ | ⟨q1, q2, q3, q4, q5, q6, _⟩
    · rw [e] at hk; cases hk
    · rw [q4] at hk
      simp only [Value.ownBlock, Option.some.injEq] at hk
      subst hk
      exact ⟨q5, tagOf_heap q6⟩
  have f1 : Fr base [28, 47] w w1 := Fr.grown hg (fun k hk => ⟨(hown k hk).1, 47, by simp, (hown k hk).2⟩)
  have g6 : w1.heap[g]? = some (.cells #[v0, .int .i64 last] 28 (0, 0)) := (hg.block g (Array.getElem?_eq_some_iff.1 h0).1 (fun e => by have := (hown g e.symm).2; rw [tagOf_heap h0] at this; cases this)).trans h0
  have f2 : Fr base [28] w1 (w1.setCell ⟨g, 0, none⟩ v) := Fr.setCell v hlo (t := 28) (by simp) (tagOf_heap g6)
  exact ⟨⟨hlo, v, two_set0 g6, f2.owns hv (by simp)⟩, f1.trans (f2.sub (by simp)), g6, fun k hk => (hown k hk).2⟩

/-- the program's table, and the law's own rows, behind c calls -/
structure Alone (w : World) (base gt gr c : Nat) (G F : List Spn) (last lastR : Int) : Prop where
  t : Tb w base gt (heldG G) F last
  r : Rt w base gr (rowsG G) lastR
  inv : Inv G F last
  le : lastR ≤ last
  lenG : G.length ≤ c
  lenF : F.length ≤ c
  lenR : (rowsG G).length ≤ 13 * c
theorem Alone.of {w : World} {base gt gr c : Nat} {G F : List Spn} {last : Int} (h : Both w base gt gr c G F last) : Alone w base gt gr c G F last last := ⟨h.t, h.r, h.inv, Int.le_refl _, h.lenG, h.lenF, h.lenR⟩
theorem Alone.later {w w' : World} {base gt gr c : Nat} {G F : List Spn} {last lastR : Int} (h : Alone w base gt gr c G F last lastR) (hb : Below w.heap.size w w') : Alone w' base gt gr c G F last lastR := ⟨h.t.later hb, h.r.later hb, h.inv, h.le, h.lenG, h.lenF, h.lenR⟩
/-- one has taken; its rows were written down -/
theorem Alone.take {w w1 w2 : World} {base gt gr c : Nat} {G F : List Spn} {last lastR : Int} {id : Id} {a : Int} {rd wl : List ByteArray} {rv wv : Value} (h : Alone w base gt gr c G F last lastR) (h0 : takeE (heldG G) last id a rd wl = 0) (hT : Tb w1 base gt (heldG G ++ [⟨id, a, 0, rd, wl, rv, wv⟩]) F a) (f2 : Fr base [28, 47] w1 w2) (hR : Rt w2 base gr (rowsG G ++ newRows id a 0 rd wl) lastR) (hrd : rd.length ≤ 6) (hwl : wl.length ≤ 6) :
    ∃ G' F' last' lastR', Alone w2 base gt gr (c + 1) G' F' last' lastR' := by
  have hla := (takeE_zero.1 h0).1
  refine ⟨G ++ [⟨id, a, 0, rd, wl, rv, wv⟩], F, a, lastR, ?_, ?_, h.inv.take rfl h0, ?_, ?_, ?_, ?_⟩
  · rw [held_new _ _ rfl]
    exact hT.fr f2 (by simp) (by simp) (by simp)
  · rw [take_rows_new]
    exact hR
  · have := h.le; omega
  · have := h.lenG; simp; omega
  · have := h.lenF; omega
  · have := h.lenR
    rw [take_rows_new, List.length_append, newRows_length]
    simp only
    omega
theorem Alone.freeR {w : World} {base gt gr c : Nat} {G F : List Spn} {last lastR : Int} (h : Alone w base gt gr c G F last lastR) {id : Id} {a : Int} (h0 : freeE (heldG G) last id a = 0) : freeR (rowsG G) lastR id a = 0 := by
  unfold freeE at h0
  by_cases hle : a ≤ last
  · rw [if_pos hle] at h0; cases h0
  rw [if_neg hle] at h0
  by_cases hh : holdsS (heldG G) id = true
  · have := h.le
    rw [Go.Proofs.Ytbhohedkgeokgaa.freeR, if_neg (by omega), holds_rows, if_pos hh]
  · rw [if_neg hh] at h0; cases h0
theorem Alone.free {w w1 w3 : World} {base gt gr c : Nat} {G F : List Spn} {last lastR : Int} {id : Id} {a : Int} (h : Alone w base gt gr c G F last lastR) (h0 : freeE (heldG G) last id a = 0) (h1 : Freed w1 base gt (heldG G) F last id a) (h2 : RFreed w3 base gr (rowsG G) lastR id a) (f2 : Fr base [28, 47] w1 w3) :
    ∃ G' F' last' lastR', Alone w3 base gt gr (c + 1) G' F' last' lastR' := by
  obtain ⟨s, hs, hi, hT⟩ := h1.yes h0
  have hR := h2.yes (h.freeR h0)
  have hla : last < a := by
    unfold freeE at h0
    by_cases hle : a ≤ last
    · rw [if_pos hle] at h0; cases h0
    · omega
  have hn := h.inv.nonneg
  refine ⟨G.map (endS id a), keepF F s a, a, a, ?_, ?_, h.inv.free id a hla hs hi, Int.le_refl _, ?_, ?_, ?_⟩
  · rw [held_end id a (by omega) G h.inv.apart]
    exact hT.fr f2 (by simp) (by simp) (by simp)
  · rw [← end_rows]
    exact hR
  · have := h.lenG; simp; omega
  · have := h.lenF; have := keepF_length F s a; omega
  · have := h.lenR; rw [rowsG_end]; omega
theorem Alone.more {w : World} {base gt gr c : Nat} {G F : List Spn} {last lastR : Int} (h : Alone w base gt gr c G F last lastR) : Alone w base gt gr (c + 1) G F last lastR := ⟨h.t, h.r, h.inv, h.le, by have := h.lenG; omega, by have := h.lenF; omega, by have := h.lenR; omega⟩
end Go.Proofs.Ytbhohedkgeokgaa
