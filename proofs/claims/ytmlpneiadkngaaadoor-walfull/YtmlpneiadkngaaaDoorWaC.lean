/- What package wal's wipe and mend do: contracts. -/
import Derived.Test.YtmlpneiadkngaaaDoorWaB
import Derived.Test.YtmlpneiadkngaaaDoorFaG
import Derived.Test.YtmlpneiadkngaaaDoorDkE
namespace Go.Proofs.YtmlpneiadkngaaaDoor
open Go.RowKit

/-- an error of a number, none of 0 -/
def Err (w : World) (c : Nat) (v : Value) : Prop := (c = 0 ∧ v = .nilIface) ∨ (c ≠ 0 ∧ ∃ qs, Errv w c qs v)
theorem Err.later {w wx : World} {c : Nat} {v : Value} (h : Err w c v) (hb : Below w.heap.size w wx) : Err wx c v := by
  rcases h with h | ⟨h, qs, hv⟩
  · exact .inl h
  · exact .inr ⟨h, qs, hv.later hb⟩
theorem Err.isNil {w : World} {v : Value} (h : Err w 0 v) : v = .nilIface := by
  rcases h with h | h
  · exact h.2
  · exact absurd rfl h.1
theorem Err.isSome {w : World} {c : Nat} {v : Value} (h : Err w c v) (hc : c ≠ 0) : ∃ qs, Errv w c qs v := by
  rcases h with h | h
  · exact absurd h.1 hc
  · exact h.2

theorem new_err (s : ByteArray) (c : Nat) (w : World) :
    Calls Tryd.prog 32 #[.string s, .int .i64 c] w fun e w' => ∃ v, e = .returned v ∧ Err w' c v ∧ Below w.heap.size w w' := by
  by_cases h : c = 0
  · subst h
    refine (new_ok s w).mono ?_
    rintro e w' ⟨rfl, rfl⟩
    exact ⟨_, rfl, .inl ⟨rfl, rfl⟩, Below.refl _ _⟩
  · refine (new_bad s c w (by omega)).mono ?_
    rintro e w' ⟨v, rfl, hv, hb⟩
    exact ⟨v, rfl, .inr ⟨h, _, hv⟩, hb⟩
theorem in_err (s : ByteArray) (c : Nat) (v : Value) (w : World) (h : Err w c v) :
    Calls Tryd.prog 36 #[.string s, v] w fun e w' => ∃ v', e = .returned v' ∧ Err w' c v' ∧ Below w.heap.size w w' := by
  rcases h with ⟨rfl, rfl⟩ | ⟨hc, qs, hv⟩
  · refine (in_ok s w).mono ?_
    rintro e w' ⟨rfl, rfl⟩
    exact ⟨_, rfl, .inl ⟨rfl, rfl⟩, Below.refl _ _⟩
  · refine (in_bad s c qs v w hv).mono ?_
    rintro e w' ⟨v', rfl, hv', hb⟩
    exact ⟨v', rfl, .inr ⟨hc, _, hv'⟩, hb⟩
theorem code_err (c : Nat) (v : Value) (w : World) (hg : G w) (h : Err w c v) :
    Calls Tryd.prog 25 #[v] w fun e w' => e = .returned (.int .i64 c) ∧ Below w.heap.size w w' := by
  rcases h with ⟨rfl, rfl⟩ | ⟨hc, qs, hv⟩
  · refine (code_nil w).mono ?_
    rintro e w' ⟨rfl, rfl⟩
    exact ⟨rfl, Below.refl _ _⟩
  · exact code_any c qs v w hg hv

theorem Frm.of_later {w w' : World} (hb : Below w.heap.size w w') (S : Nat → Prop) : Frm S w w' := Frm.of_below hb S (fun k h1 h2 => by omega)

/-- all that stands in an area is taken away -/
def DS.wipe (d : DS) (k : Int) (sz : Nat) : Nat × DS := if sz = 0 then (0, d) else d.cut k 0
/-- what stands behind the last whole frame is taken away, and all else is sure -/
def DS.mend (d : DS) (k : Int) (sz e : Nat) : Nat × DS := if e < sz then d.cut k e else if d.sureOf k < sz then d.sync k else (0, d)

theorem wipe_any (g : Nat) (S : Nat → Prop) (d : DS) (k : Int) (sz : Nat) (e0 wh gn rv : Value) (w : World) (h : Dk w S g d) :
    Calls Tryd.prog 46 #[.pointer (some ⟨g, 0, none⟩), .int .i64 k, .agg #[.int .i64 sz, e0, wh, gn, rv]] w fun e w' => ∃ v, e = .returned v ∧ Err w' (d.wipe k sz).1 v ∧ Dk w' S g (d.wipe k sz).2 ∧ Frm (· = g) w w' := by
  have hB : Below w.heap.size w (w.alloc (.cells #[.int .i64 sz, e0, wh, gn, rv] 54)) := below_new _ _
  have hD := h.later hB
  have HB : Hid (Below _ _ _) := hB
  clear hB h
  unfold DS.wipe
  by_cases h0 : sz = 0
  · subst h0
    rw [if_pos rfl]
    go_enter Tryd.func46, Tryd.ntmps46
    go_wp2
    go_ret
    exact ⟨_, rfl, .inl ⟨rfl, rfl⟩, hD, Frm.of_later HB.out _⟩
  · rw [if_neg h0]
    have h1 : (sz : Int) ≠ 0 := by omega
    generalize hq : d.cut k 0 = q at *
    obtain ⟨r, D⟩ := q
    have hc := dcut_any g S d k 0 _ hD
    rw [hq] at hc
    dsimp only at hc ⊢
    clear hq hD
    go_enter Tryd.func46, Tryd.ntmps46
    go_wp2_with fail
    refine hc.mono ?_
    clear hc
    rintro e w1 ⟨rfl, hD1, hf⟩
    have HF : Hid (Frm (· = g) w w1) := (Frm.of_later HB.out _).trans hf
    clear hf
    go_wp2_with fail
    refine (new_err _ r w1).mono ?_
    rintro e w2 ⟨v, rfl, hv, hb⟩
    go_wp2
    go_ret
    exact ⟨v, rfl, hv, hD1.later hb, HF.out.trans (Frm.of_later hb _)⟩

set_option maxRecDepth 100000 in
theorem mend_any (g : Nat) (S : Nat → Prop) (d : DS) (k : Int) (sz en : Nat) (wh gn rv : Value) (w : World) (h : Dk w S g d) :
    Calls Tryd.prog 44 #[.pointer (some ⟨g, 0, none⟩), .int .i64 k, .agg #[.int .i64 sz, .int .i64 en, wh, gn, rv]] w fun e w' => ∃ v, e = .returned v ∧ Err w' (d.mend k sz en).1 v ∧ Dk w' S g (d.mend k sz en).2 ∧ Frm (· = g) w w' := by
  have hB : Below w.heap.size w (w.alloc (.cells #[.int .i64 sz, .int .i64 en, wh, gn, rv] 54)) := below_new _ _
  have hD := h.later hB
  have HB : Hid (Below _ _ _) := hB
  have hh := heap_new w (.cells #[.int .i64 sz, .int .i64 en, wh, gn, rv] 54)
  have o0 := cell_of_heap (i := 0) hh rfl
  clear hB h hh
  unfold DS.mend
  by_cases h0 : en < sz
  · rw [if_pos h0]
    have h1 : (en : Int) < (sz : Int) := by omega
    generalize hq : d.cut k en = q at *
    obtain ⟨r, D⟩ := q
    have hc := dcut_any g S d k en _ hD
    rw [hq] at hc
    dsimp only at hc ⊢
    clear hq hD
    go_enter Tryd.func44, Tryd.ntmps44
    go_wp2_with fail
    refine hc.mono ?_
    clear hc
    rintro e w1 ⟨rfl, hD1, hf⟩
    have HF : Hid (Frm (· = g) w w1) := (Frm.of_later HB.out _).trans hf
    clear hf
    go_wp2_with fail
    refine (new_err _ r w1).mono ?_
    rintro e w2 ⟨v, rfl, hv, hb⟩
    go_wp2
    go_ret
    exact ⟨v, rfl, hv, hD1.later hb, HF.out.trans (Frm.of_later hb _)⟩
  · rw [if_neg h0]
    have h1 : (sz : Int) ≤ (en : Int) := by omega
    have HS : Hid (∀ j, Calls Tryd.prog 12 #[.pointer (some ⟨g, 0, none⟩), .int .i64 k] ((w.alloc (.cells #[.int .i64 sz, .int .i64 en, wh, gn, rv] 54)).drewN j) fun e w' => e = .returned (.int .i64 (d.sureOf k : Nat)) ∧ w' = (w.alloc (.cells #[.int .i64 sz, .int .i64 en, wh, gn, rv] 54)).drewN j) := fun j => dsure_any g S d k _ (hD.drews (k := j))
    generalize hsu : d.sureOf k = su at *
    by_cases h2 : su < sz
    · rw [if_pos h2]
      have h3 : (su : Int) < (sz : Int) := by omega
      generalize hq : d.sync k = q at *
      obtain ⟨r, D⟩ := q
      go_enter Tryd.func44, Tryd.ntmps44
      go_wp2
      generalize w.alloc (.cells #[.int .i64 sz, .int .i64 en, wh, gn, rv] 54) = W at *
      go_quiet ((exact Calls.quiet_of_same (HS.out _)))
      have hc := dsync_any g S d k _ (hD.drews (k := nq))
      rw [hq] at hc
      dsimp only at hc ⊢
      have HB2 : Hid (Below w.heap.size w (W.drewN nq)) := below_drewN HB.out nq
      generalize W.drewN nq = W2 at *
      clear hq hD HS HB o0
      go_wp2_with fail
      refine hc.mono ?_
      clear hc
      rintro e w1 ⟨rfl, hD1, hf⟩
      have HF : Hid (Frm (· = g) w w1) := (Frm.of_later HB2.out _).trans hf
      clear hf
      go_wp2_with fail
      refine (new_err _ r w1).mono ?_
      rintro e w2 ⟨v, rfl, hv, hb⟩
      go_wp2
      go_ret
      exact ⟨v, rfl, hv, hD1.later hb, HF.out.trans (Frm.of_later hb _)⟩
    · rw [if_neg h2]
      have h3 : (sz : Int) ≤ (su : Int) := by omega
      go_enter Tryd.func44, Tryd.ntmps44
      go_wp2
      generalize w.alloc (.cells #[.int .i64 sz, .int .i64 en, wh, gn, rv] 54) = W at *
      go_quiet ((exact Calls.quiet_of_same (HS.out _)))
      have hD2 := hD.drews (k := nq)
      have HB2 : Hid (Below w.heap.size w (W.drewN nq)) := below_drewN HB.out nq
      generalize W.drewN nq = W2 at *
      clear HS HB o0
      go_wp2
      go_ret
      exact ⟨_, rfl, .inl ⟨rfl, rfl⟩, hD2, Frm.of_later HB2.out _⟩
end Go.Proofs.YtmlpneiadkngaaaDoor
