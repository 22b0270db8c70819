/- What package wal's Open does at a disk that is not lost: a contract. -/
import Derived.Test.YtmlpneiadkngaaaDoorWaG
import Derived.Test.YtmlpneiadkngaaaDoorWaI
import Derived.LoopN
import Derived.Deep.Cut
namespace Go.Proofs.YtmlpneiadkngaaaDoor
open Go.RowKit
set_option linter.unusedVariables false

/-- a generation that is whole stands; else the first one is begun -/
def Wa.gen (h : Bool) (g : Nat) : Nat := if h then g else 1
/-- what opening does, of both areas -/
def DS.opened (d : DS) (s0 e0 : Nat) (h0 : Bool) (g0 s1 e1 : Nat) (h1 : Bool) (g1 : Nat) : Nat × DS :=
  if Wa.newest h0 h1 g0 g1 = 0 then d.opens 0 h0 s0 e0 s1 else d.opens 1 h1 s1 e1 s0
def Wa.genOf (h0 : Bool) (g0 : Nat) (h1 : Bool) (g1 : Nat) : Nat := if Wa.newest h0 h1 g0 g1 = 0 then Wa.gen h0 g0 else Wa.gen h1 g1
theorem Wa.newest_or (h0 h1 : Bool) (g0 g1 : Nat) : Wa.newest h0 h1 g0 g1 = 0 ∨ (Wa.newest h0 h1 g0 g1 = 1 ∧ h1 = true) := by
  unfold Wa.newest
  cases h1
  · exact .inl rfl
  · by_cases h : h0 = true ∧ g1 ≤ g0
    · exact .inl (by rw [if_neg (by simp), if_pos h])
    · exact .inr ⟨by rw [if_neg (by simp), if_neg h], rfl⟩

theorem wopen_any (g : Nat) (S : Nat → Prop) (d : DS) (s0 e0 g0 s1 e1 g1 : Nat) (h0 h1 : Bool) (r0 r1 : Value) (w : World) (h : Dk w S g d) (hS : ∀ k, w.heap.size ≤ k → S k) :
    Calls Tryd.prog 26 #[.pointer (some ⟨g, 0, none⟩), .agg #[.int .i64 s0, .int .i64 e0, .bool h0, .int .u64 g0, r0, .int .i64 s1, .int .i64 e1, .bool h1, .int .u64 g1, r1]] w fun e w' => Opened S g (Wa.newest h0 h1 g0 g1) (Wa.genOf h0 g0 h1 g1) (d.opened s0 e0 h0 g0 s1 e1 h1 g1) w w' e := by
  unfold DS.opened Wa.genOf
  rcases Wa.newest_or h0 h1 g0 g1 with hn | ⟨hn, rfl⟩
  · rw [if_pos hn, if_pos hn, hn]
    cases h0
    · exact open_anew0 g S d s0 e0 g0 s1 e1 g1 h1 r0 r1 w h hS hn
    · exact open_mend0 g S d s0 e0 g0 s1 e1 g1 h1 r0 r1 w h hS hn
  · rw [if_neg (by omega), if_neg (by omega), hn]
    exact open_mend1 g S d s0 e0 g0 s1 e1 g1 h0 r0 r1 w h hS hn

/-- what is seen in an area -/
def Sees (w : World) (base : Nat) (bs : List Nat) (en : Nat) (wh : Bool) (gn : Nat) (a : Option Addr) (n : Nat) : Prop :=
  ∃ k, Fr.Stop bs k ∧ match Wa.whole bs k with
    | some (gn', rs, en') => wh = true ∧ gn = gn' ∧ en = en' ∧ n = rs.length ∧ Recb w base a n rs
    | none => wh = false ∧ gn = 0 ∧ en = 0 ∧ a = none ∧ n = 0
theorem Found.form {w : World} {base : Nat} {bs : List Nat} {k : Nat} {f : Value} (h : Found w base bs k f) :
    ∃ en wh gn a n cap, f = .agg #[.int .i64 (bs.length : Nat), .int .i64 (en : Nat), .bool wh, .int .u64 (gn : Nat), .slice a n cap] ∧ Sees w base bs en wh gn a n := by
  obtain ⟨h1, h2⟩ := h
  cases hw : Wa.whole bs k with
  | none =>
    rw [hw] at h1
    exact ⟨0, false, 0, none, 0, 0, h1, k, h2, by rw [hw]; exact ⟨rfl, rfl, rfl, rfl, rfl⟩⟩
  | some q =>
    obtain ⟨gn, rs, en⟩ := q
    rw [hw] at h1
    obtain ⟨a, cap, hf, hr⟩ := h1
    exact ⟨en, true, gn, a, rs.length, cap, hf, k, h2, by rw [hw]; exact ⟨rfl, rfl, rfl, rfl, hr⟩⟩
theorem Sees.frm {w w' : World} {T : Nat → Prop} {base : Nat} {bs : List Nat} {en gn n : Nat} {wh : Bool} {a : Option Addr} (h : Sees w base bs en wh gn a n) (hf : Frm T w w') (hT : ∀ k, base ≤ k → k < w.heap.size → ¬ T k) : Sees w' base bs en wh gn a n := by
  obtain ⟨k, hk, hm⟩ := h
  refine ⟨k, hk, ?_⟩
  cases hw : Wa.whole bs k with
  | none => rw [hw] at hm; exact hm
  | some q =>
    obtain ⟨gn', rs, en'⟩ := q
    rw [hw] at hm
    exact ⟨hm.1, hm.2.1, hm.2.2.1, hm.2.2.2.1, hm.2.2.2.2.frm hf hT⟩
theorem Sees.later {w w' : World} {base : Nat} {bs : List Nat} {en gn n : Nat} {wh : Bool} {a : Option Addr} (h : Sees w base bs en wh gn a n) (hb : Below w.heap.size w w') : Sees w' base bs en wh gn a n :=
  h.frm (Frm.of_below hb (fun _ => False) (fun k h1 h2 => by omega)) (fun _ _ _ h => h)

theorem Sees.base {w : World} {base base' : Nat} {bs : List Nat} {en gn n : Nat} {wh : Bool} {a : Option Addr} (h : Sees w base bs en wh gn a n) (hb : base' ≤ base) : Sees w base' bs en wh gn a n := by
  obtain ⟨k, hk, hm⟩ := h
  refine ⟨k, hk, ?_⟩
  cases hw : Wa.whole bs k with
  | none => rw [hw] at hm; exact hm
  | some q =>
    obtain ⟨gn', rs, en'⟩ := q
    rw [hw] at hm
    exact ⟨hm.1, hm.2.1, hm.2.2.1, hm.2.2.2.1, hm.2.2.2.2.mono hb⟩

theorem ten0 {w : World} {g : Nat} {a0 a1 a2 a3 a4 a5 a6 a7 a8 a9 : Value} (x0 x1 x2 x3 x4 : Value) (hh : w.heap[g]? = some (.cells #[a0, a1, a2, a3, a4, a5, a6, a7, a8, a9] 55 (0, 0))) :
    (((((w.setCell ⟨g, 0, none⟩ x0).setCell ⟨g, 1, none⟩ x1).setCell ⟨g, 2, none⟩ x2).setCell ⟨g, 3, none⟩ x3).setCell ⟨g, 4, none⟩ x4).heap[g]? = some (.cells #[x0, x1, x2, x3, x4, a5, a6, a7, a8, a9] 55 (0, 0)) ∧
    Frm (· = g) w (((((w.setCell ⟨g, 0, none⟩ x0).setCell ⟨g, 1, none⟩ x1).setCell ⟨g, 2, none⟩ x2).setCell ⟨g, 3, none⟩ x3).setCell ⟨g, 4, none⟩ x4) :=
  ⟨heap_setCell_same _ g 4 _ 55 _ (heap_setCell_same _ g 3 _ 55 _ (heap_setCell_same _ g 2 _ 55 _ (heap_setCell_same _ g 1 _ 55 _ (heap_setCell_same w g 0 _ 55 _ hh)))),
   ((((Frm.one _ _ _ _).trans (Frm.one _ _ _ _)).trans (Frm.one _ _ _ _)).trans (Frm.one _ _ _ _)).trans (Frm.one _ _ _ _)⟩
theorem ten5 {w : World} {g : Nat} {a0 a1 a2 a3 a4 a5 a6 a7 a8 a9 : Value} (x0 x1 x2 x3 x4 : Value) (hh : w.heap[g]? = some (.cells #[a0, a1, a2, a3, a4, a5, a6, a7, a8, a9] 55 (0, 0))) :
    (((((w.setCell ⟨g, 5, none⟩ x0).setCell ⟨g, 6, none⟩ x1).setCell ⟨g, 7, none⟩ x2).setCell ⟨g, 8, none⟩ x3).setCell ⟨g, 9, none⟩ x4).heap[g]? = some (.cells #[a0, a1, a2, a3, a4, x0, x1, x2, x3, x4] 55 (0, 0)) ∧
    Frm (· = g) w (((((w.setCell ⟨g, 5, none⟩ x0).setCell ⟨g, 6, none⟩ x1).setCell ⟨g, 7, none⟩ x2).setCell ⟨g, 8, none⟩ x3).setCell ⟨g, 9, none⟩ x4) :=
  ⟨heap_setCell_same _ g 9 _ 55 _ (heap_setCell_same _ g 8 _ 55 _ (heap_setCell_same _ g 7 _ 55 _ (heap_setCell_same _ g 6 _ 55 _ (heap_setCell_same w g 5 _ 55 _ hh)))),
   ((((Frm.one _ _ _ _).trans (Frm.one _ _ _ _)).trans (Frm.one _ _ _ _)).trans (Frm.one _ _ _ _)).trans (Frm.one _ _ _ _)⟩
end Go.Proofs.YtmlpneiadkngaaaDoor
