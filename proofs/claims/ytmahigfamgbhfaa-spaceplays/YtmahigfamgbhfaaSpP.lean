/- The space and the law's own space, side by side: plain mathematics. -/
import Derived.Test.YtmahigfamgbhfaaSpO
namespace Go.Proofs.Ytmahigfamgbhfaa
open Go.RowKit Go.Maps
set_option linter.unusedVariables false

theorem less_trans {a b c : List UInt8} (h : Op.bytesLess a b = true) (k : Op.bytesLess b c = true) : Op.bytesLess a c = true := by
  rw [bytesLess_eq] at *
  simp at *
  exact List.lt_trans h k
theorem less_tri {a b : List UInt8} (h : Op.bytesLess a b = false) (hne : a ≠ b) : Op.bytesLess b a = true := by
  rw [bytesLess_eq] at *
  simp at *
  rcases List.le_iff_lt_or_eq.1 h with h | h
  · exact h
  · exact absurd h.symm hne
theorem split_at (key : ByteArray) : ∀ {L : List LRow}, Srt L → ∃ A B, L = A ++ B ∧ (∀ r ∈ A, Op.bytesLess r.1.toList key.toList = true) ∧ (∀ r ∈ B, Op.bytesLess r.1.toList key.toList = false)
  | [], _ => ⟨[], [], rfl, by simp, by simp⟩
  | r :: L, h => by
    have h' := List.pairwise_cons.1 h
    cases hr : Op.bytesLess r.1.toList key.toList with
    | true =>
      obtain ⟨A, B, e, h1, h2⟩ := split_at key h'.2
      refine ⟨r :: A, B, by rw [e]; rfl, fun x hx => ?_, h2⟩
      rcases List.mem_cons.1 hx with rfl | hx
      · exact hr
      · exact h1 x hx
    | false =>
      refine ⟨[], r :: L, rfl, by simp, fun x hx => ?_⟩
      rcases List.mem_cons.1 hx with rfl | hx
      · exact hr
      · cases hx2 : Op.bytesLess x.1.toList key.toList with
        | false => rfl
        | true => rw [less_trans (h'.1 x hx) hx2] at hr; cases hr
theorem ofL_skip {A B : List LRow} {s : ByteArray} (h : ∀ r ∈ A, r.1.toList ≠ s.toList) : ofL (A ++ B) s = ofL B s := by
  induction A with
  | nil => rfl
  | cons r A ih =>
    show (if r.1.toList = s.toList then r.2 else ofL (A ++ B) s) = _
    rw [if_neg (h r (by simp)), ih (fun x hx => h x (by simp [hx]))]
theorem ofL_front {A B C : List LRow} {s : ByteArray} (h : ofL B s = ofL C s) : ofL (A ++ B) s = ofL (A ++ C) s := by
  induction A with
  | nil => exact h
  | cons r A ih =>
    show (if r.1.toList = s.toList then r.2 else ofL (A ++ B) s) = if r.1.toList = s.toList then r.2 else ofL (A ++ C) s
    rw [ih]
theorem ofL_absent {A : List LRow} {s : ByteArray} (h : ∀ r ∈ A, r.1.toList ≠ s.toList) : ofL A s = [] := by
  have := ofL_skip (B := []) h
  rwa [List.append_nil] at this
theorem ofL_filter {B : List LRow} {key s : ByteArray} (h : s.toList ≠ key.toList) : ofL (B.filter (other key)) s = ofL B s := by
  induction B with
  | nil => rfl
  | cons r B ih =>
    by_cases hr : r.1.toList = key.toList
    · rw [List.filter_cons_of_neg (by simp [other, hr]), ih]
      show _ = if r.1.toList = s.toList then r.2 else ofL B s
      rw [if_neg (fun e => h (e.symm.trans hr))]
    · rw [List.filter_cons_of_pos (by simp [other, hr])]
      show (if r.1.toList = s.toList then r.2 else ofL (B.filter (other key)) s) = if r.1.toList = s.toList then r.2 else ofL B s
      rw [ih]
theorem ofL_setL {L : List LRow} (h : Srt L) (key s : ByteArray) (l : List Ver) : ofL (setL L key l) s = if s.toList = key.toList then l else ofL L s := by
  obtain ⟨A, B, rfl, hA, hB⟩ := split_at key h
  rw [setL_split key l A B hA hB, List.append_assoc]
  by_cases e : s.toList = key.toList
  · rw [if_pos e, ofL_skip (fun r hr => by rw [e]; exact less_ne (hA r hr))]
    unfold one
    split
    · rename_i hl
      rw [List.nil_append, ofL_absent, List.length_eq_zero_iff.1 hl]
      intro r hr
      have := (List.mem_filter.1 hr).2
      rw [e]
      simpa [other] using this
    · show (if key.toList = s.toList then l else _) = l
      rw [if_pos e.symm]
  · rw [if_neg e]
    refine ofL_front ?_
    rw [ofL_skip, ofL_filter e]
    intro r hr
    rw [(one_key hr).1]
    exact fun e2 => e e2.symm
theorem setL_sorted {L : List LRow} (h : Srt L) (key : ByteArray) (l : List Ver) : Srt (setL L key l) := by
  obtain ⟨A, B, rfl, hA, hB⟩ := split_at key h
  rw [setL_split key l A B hA hB]
  obtain ⟨h1, h2, h3⟩ := List.pairwise_append.1 h
  have hf : ∀ r ∈ B.filter (other key), r ∈ B ∧ Op.bytesLess key.toList r.1.toList = true := by
    intro r hr
    obtain ⟨hr1, hr2⟩ := List.mem_filter.1 hr
    exact ⟨hr1, less_tri (hB r hr1) (by simpa [other] using hr2)⟩
  refine List.pairwise_append.2 ⟨List.pairwise_append.2 ⟨h1, ?_, fun a ha b hb => ?_⟩, h2.sublist List.filter_sublist, fun a ha b hb => ?_⟩
  · unfold one; split <;> simp
  · rw [(one_key hb).1]; exact hA a ha
  · rcases List.mem_append.1 ha with ha | ha
    · exact h3 a ha b (hf b hb).1
    · rw [(one_key ha).1]; exact (hf b hb).2
theorem ofL_mapR {f : List Ver → List Ver} (h0 : f [] = []) {L : List LRow} (h : Srt L) (s : ByteArray) : ofL (mapR f L) s = f (ofL L s) := by
  induction L with
  | nil => exact h0.symm
  | cons r L ih =>
    have h' := List.pairwise_cons.1 h
    have e : mapR f (r :: L) = one r.1 (f r.2) ++ mapR f L := by rw [mapR, List.flatMap_cons]; rfl
    have e2 : ofL (r :: L) s = if r.1.toList = s.toList then r.2 else ofL L s := rfl
    rw [e, e2]
    by_cases hr : r.1.toList = s.toList
    · rw [if_pos hr]
      unfold one
      split
      · rename_i hl
        rw [List.nil_append, ih h'.2, ofL_absent (fun x hx => ?_), h0, List.length_eq_zero_iff.1 hl]
        rw [← hr]
        exact fun e => less_ne (h'.1 x hx) e.symm
      · show (if r.1.toList = s.toList then f r.2 else _) = _
        rw [if_pos hr]
    · rw [if_neg hr, ofL_skip, ih h'.2]
      intro x hx
      rw [(one_key hx).1]
      exact hr
theorem ofL_mem {L : List LRow} {s : ByteArray} (h : ofL L s ≠ []) : ∃ r ∈ L, r.1.toList = s.toList ∧ ofL L s = r.2 := by
  induction L with
  | nil => exact absurd rfl h
  | cons r L ih =>
    have e2 : ofL (r :: L) s = if r.1.toList = s.toList then r.2 else ofL L s := rfl
    by_cases hr : r.1.toList = s.toList
    · exact ⟨r, by simp, hr, by rw [e2, if_pos hr]⟩
    · rw [e2, if_neg hr] at h ⊢
      obtain ⟨q, hq, h1, h2⟩ := ih h
      exact ⟨q, by simp [hq], h1, h2⟩
theorem ofL_row {L : List LRow} (h : Srt L) {r : LRow} (hr : r ∈ L) : ofL L r.1 = r.2 := by
  induction L with
  | nil => cases hr
  | cons q L ih =>
    have h' := List.pairwise_cons.1 h
    show (if q.1.toList = r.1.toList then q.2 else ofL L r.1) = r.2
    rcases List.mem_cons.1 hr with rfl | hr
    · rw [if_pos rfl]
    · rw [if_neg (less_ne (h'.1 r hr)), ih h'.2 hr]

/-! both, side by side -/
theorem no_cell_in_map {w : World} {bm n : Nat} {D : DataW Value} (h : w.ownsMap Try.prog 9 Rv bm n D) : ∀ off u, w.cell? ⟨bm, off, none⟩ ≠ some u := by
  intro off i hc
  obtain ⟨es, clock, hb, _⟩ := h
  simp [World.cell?, hb] at hc
/-- the law's own rows stay where a map is written -/
theorem Rs.turned {w w' : World} {gr bm n : Nat} {D : DataW Value} {L : List LRow} (h : Rs w gr L) (hm : w.ownsMap Try.prog 9 Rv bm n D) (hk : ∀ k, k < w.heap.size → k ≠ bm → w'.heap[k]? = w.heap[k]?) : Rs w' gr L := by
  obtain ⟨a, k, c, h1, ⟨h2, h3, h4⟩, h5⟩ := h.box
  have hno := no_cell_in_map hm
  have hne : ∀ (b off : Nat) (u : Value), w.cell? ⟨b, off, none⟩ = some u → w'.cell? ⟨b, off, none⟩ = some u := by
    intro b off u hc
    have : b ≠ bm := fun e => by rw [e] at hc; exact hno _ _ hc
    exact (World.cell?_of_block (hk b (World.block_lt_of_cell? w _ hc) this)).trans hc
  have hgr : gr ≠ bm := fun e => hno 0 _ (by rw [← e]; exact cell_of_heap h1 rfl)
  refine ⟨a, k, c, (hk gr (Array.getElem?_eq_some_iff.1 h1).1 hgr).trans h1, ⟨h2, h3, ?_⟩, h5⟩
  rcases h4 with h4 | ⟨b, off, e, hc⟩
  · exact .inl h4
  · refine .inr ⟨b, off, e, fun i hi => ?_⟩
    obtain ⟨c0, u, c1, ua, uk, uc, eu, hv, h0⟩ := hc i hi
    exact ⟨hne _ _ _ c0, u, hne _ _ _ c1, ua, uk, uc, eu, hv.but bm hk (no_int_in_map hm), h0⟩
/-- a space stays where the law's own one is written -/
theorem Sp.beside {w w' : World} {g bm n gr : Nat} {D : DataW Value} {F : ByteArray → List Ver} {L : List LRow} (h : Sp w g bm n D F) (hr : Rs w gr L) (hg : w.grownBy w' (some gr)) : Sp w' g bm n D F := by
  obtain ⟨a, k, c, h1, -⟩ := hr.box
  have hno : ∀ off i, w.cell? ⟨gr, off, none⟩ ≠ some (.int .i64 i) := by
    intro off i hc
    rw [World.cell?] at hc
    simp only [h1] at hc
    match off, hc with
    | 0, hc => simp at hc
    | off + 1, hc => simp at hc
  have hgg : g ≠ gr := fun e => by
    have := h.box
    rw [e, h1] at this
    cases this
  have hbm : bm ≠ gr := fun e => no_cell_in_map h.map 0 _ (by rw [e]; exact cell_of_heap h1 rfl)
  have hk : ∀ k, k < w.heap.size → k ≠ gr → w'.heap[k]? = w.heap[k]? := fun k hk hne => hg.block k hk (fun e => hne (by injection e))
  exact ⟨(hk g (Array.getElem?_eq_some_iff.1 h.box).1 hgg).trans h.box, h.map.kept hg (fun e => hbm (by injection e)), fun s => by obtain ⟨u, h1, h2⟩ := h.obj s; exact ⟨u, h1, h2.but gr hk hno⟩, h.right, h.keys⟩
/-- nothing but two blocks is written -/
structure Two (bm gr : Nat) (w w' : World) : Prop where
  os : w'.os = w.os
  tape : w'.tape = w.tape
  output : w'.output = w.output
  size : w.heap.size ≤ w'.heap.size
  block : ∀ k, k < w.heap.size → k ≠ bm → k ≠ gr → w'.heap[k]? = w.heap[k]?
theorem Two.refl (bm gr : Nat) (w : World) : Two bm gr w w := ⟨rfl, rfl, rfl, Nat.le_refl _, fun _ _ _ _ => rfl⟩
theorem Two.trans {bm gr : Nat} {a b c : World} (h : Two bm gr a b) (k : Two bm gr b c) : Two bm gr a c := ⟨k.os.trans h.os, k.tape.trans h.tape, k.output.trans h.output, Nat.le_trans h.size k.size, fun j hj h1 h2 => (k.block j (Nat.lt_of_lt_of_le hj h.size) h1 h2).trans (h.block j hj h1 h2)⟩
theorem Two.of_below {bm gr : Nat} {a b : World} (h : Below a.heap.size a b) : Two bm gr a b := ⟨h.os, h.tape, h.output, h.size, fun k hk _ _ => h.block k hk⟩
theorem Two.of_gr {bm gr : Nat} {a b : World} (h : a.grownBy b (some gr)) : Two bm gr a b := ⟨h.os, h.tape, h.output, h.size, fun k hk _ h2 => h.block k hk (fun e => h2 (by injection e))⟩
theorem Two.of_bm {bm gr : Nat} {a b : World} (h : a.grownBy b (some bm)) : Two bm gr a b := ⟨h.os, h.tape, h.output, h.size, fun k hk h1 _ => h.block k hk (fun e => h1 (by injection e))⟩
/-- no row is empty -/
def Full (L : List LRow) : Prop := ∀ r ∈ L, r.2 ≠ []
theorem one_full (key : ByteArray) (l : List Ver) : Full (one key l) := by
  intro r hr
  unfold one at hr
  split at hr
  · cases hr
  · rename_i h
    rw [List.mem_singleton.1 hr]
    exact fun e => h (List.length_eq_zero_iff.2 e)
theorem setL_full {L : List LRow} (hs : Srt L) (h : Full L) (key : ByteArray) (l : List Ver) : Full (setL L key l) := by
  obtain ⟨A, B, rfl, hA, hB⟩ := split_at key hs
  rw [setL_split key l A B hA hB]
  intro r hr
  rcases List.mem_append.1 hr with hr | hr
  · rcases List.mem_append.1 hr with hr | hr
    · exact h r (List.mem_append.2 (.inl hr))
    · exact one_full _ _ r hr
  · exact h r (List.mem_append.2 (.inr (List.mem_filter.1 hr).1))
theorem mapR_full (f : List Ver → List Ver) (L : List LRow) : Full (mapR f L) := by
  intro r hr
  obtain ⟨q, hq, h⟩ := List.mem_flatMap.1 hr
  exact one_full _ _ r h
/-- the space and the law's own one, behind no more than c calls -/
structure St (c : Nat) (w : World) (g bm gr : Nat) (F : ByteArray → List Ver) (L : List LRow) : Prop where
  sp : ∃ n D, Sp w g bm n D F ∧ n ≤ c
  rs : Rs w gr L
  many : L.length ≤ c
  sorted : Srt L
  agree : ∀ s, ofL L s = F s
  bound : ∀ s, (F s).length ≤ c ∧ ∀ v ∈ F s, v.num ≤ c
  full : Full L
theorem St.later {c : Nat} {w wx : World} {g bm gr : Nat} {F : ByteArray → List Ver} {L : List LRow} (h : St c w g bm gr F L) (hb : Below w.heap.size w wx) : St c wx g bm gr F L := by
  obtain ⟨n, D, h1, h2⟩ := h.sp
  exact ⟨⟨n, D, h1.later hb, h2⟩, h.rs.later hb, h.many, h.sorted, h.agree, h.bound, h.full⟩
theorem St.mono {c c' : Nat} {w : World} {g bm gr : Nat} {F : ByteArray → List Ver} {L : List LRow} (h : St c w g bm gr F L) (hc : c ≤ c') : St c' w g bm gr F L := by
  obtain ⟨n, D, h1, h2⟩ := h.sp
  exact ⟨⟨n, D, h1, by omega⟩, h.rs, Nat.le_trans h.many hc, h.sorted, h.agree, fun s => ⟨Nat.le_trans (h.bound s).1 hc, fun v hv => Nat.le_trans ((h.bound s).2 v hv) hc⟩, h.full⟩
theorem last_num_le {l : List Ver} {c : Nat} (h : ∀ v ∈ l, v.num ≤ c) : (lastL l).num ≤ c := by
  rcases Nat.eq_zero_or_pos l.length with h0 | h0
  · rw [lastL, nth_ge l _ (by omega)]; exact Nat.zero_le _
  · exact h _ (nth_mem l _ (by omega))
theorem last_pos_le {l : List Ver} (h : rightL l = true) : 0 ≤ (lastL l).pos := by
  rcases Nat.eq_zero_or_pos l.length with h0 | h0
  · rw [lastL, nth_ge l _ (by omega)]; exact Int.le_refl _
  · have := right_pos ((rightL_iff l).1 h) (l.length - 1) (by omega)
    unfold lastL
    omega
end Go.Proofs.Ytmahigfamgbhfaa
