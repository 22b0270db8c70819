/- A transaction read: what stands between a reader's calls. -/
import Derived.Test.YteokhedljfakkaaDoorEnPa
import Derived.Test.YteokhedljfakkaaDoorOctG
import Derived.Test.YteokhedljfakkaaDoorDz
namespace Go.Proofs.YteokhedljfakkaaDoor
open Go Go.RowKit
set_option linter.unusedVariables false
set_option linter.unusedSimpArgs false

theorem Only.then {g : Nat} {w wr wx : World} (h : Only g w wr) (k : Below w.heap.size wr wx) : Only g w wx :=
  ⟨k.os.trans h.os, k.tape.trans h.tape, k.output.trans h.output, Nat.le_trans h.size k.size, fun i hi hne => (k.block i hi).trans (h.block i hi hne)⟩
theorem Rd.below {w wx : World} {g B : Nat} {st : Option (List Nat)} (h : Rd w g st) (hb : Below B w wx) (hg : g < B) : Rd wx g st := by
  cases st with
  | none => show wx.heap[g]? = _; rw [hb.block g hg]; exact h
  | some bs =>
    obtain ⟨a, n, cap, h, hr, h1, h2, h3, h4⟩ := h
    refine ⟨a, n, cap, by rw [hb.block g hg]; exact h, ⟨hr.1, hr.2.1, hr.2.2.1, ?_⟩, h1, h2, h3, h4⟩
    rcases hr.2.2.2 with e | ⟨b, off, e, hc⟩
    · exact .inl e
    · exact .inr ⟨b, off, e, fun i hi => by rw [hb.cell (show b < B from Nat.lt_trans (h4 _ e) hg)]; exact hc i hi⟩
theorem Rd.tag {w : World} {g : Nat} {st : Option (List Nat)} (h : Rd w g st) : tagOf w g = some 88 := by
  cases st with
  | none => exact tagOf_heap h
  | some bs => obtain ⟨a, n, cap, h, _⟩ := h; exact tagOf_heap h
theorem Only.fr {w wx : World} {g : Nat} (h : Only g w wx) (ht : tagOf w g = some 88) : Fr 0 [88] w wx :=
  Fr.grown h (fun k hk => by simp only [Option.some.injEq] at hk; subst hk; exact ⟨Nat.zero_le _, 88, by simp, ht⟩)

/-- between a reader's calls: the reader, the answer's box, the transaction's box, its lists -/
structure Rq (w wr : World) (g p : Nat) (st : Option (List Nat)) (id : Id) (plain : Bool) (v1 : Value) (l1 : List Rdv) (v2 : Value) (l2 : List Wrv) : Prop where
  rd : Rd wr g st
  only : Only g w wr
  glt : g < w.heap.size
  plt : w.heap.size < p
  zero : wr.heap[w.heap.size]? = some (.cells #[.int .i64 0, .int .u64 0, .bool false, .slice none 0 0, .slice none 0 0] 35)
  box : wr.heap[p]? = some (.cells #[.int .i64 id.1, .int .u64 id.2, .bool plain, v1, v2] 35)
  o1 : wr.ownsRow w.heap.size 79 2 v1 l1.length (l1.flatMap Rdv.cells)
  o2 : wr.ownsRow w.heap.size 80 3 v2 l2.length (l2.flatMap Wrv.cells)
theorem Rq.call {w wr wx : World} {g p : Nat} {st st' : Option (List Nat)} {id : Id} {plain : Bool} {v1 v2 : Value} {l1 : List Rdv} {l2 : List Wrv} (h : Rq w wr g p st id plain v1 l1 v2 l2) (hr : Rd wx g st') (ho : Only g wr wx) : Rq w wx g p st' id plain v1 l1 v2 l2 :=
  have hf := ho.fr h.rd.tag
  ⟨hr, h.only.trans ho, h.glt, h.plt, hf.cells h.zero (by decide), hf.cells h.box (by decide), hf.owns h.o1 (by decide), hf.owns h.o2 (by decide)⟩
theorem Rq.size {w wr : World} {g p : Nat} {st : Option (List Nat)} {id : Id} {plain : Bool} {v1 v2 : Value} {l1 : List Rdv} {l2 : List Wrv} (h : Rq w wr g p st id plain v1 l1 v2 l2) : w.heap.size ≤ wr.heap.size := h.only.size
theorem Rq.later {w wr wx : World} {g p : Nat} {st : Option (List Nat)} {id : Id} {plain : Bool} {v1 v2 : Value} {l1 : List Rdv} {l2 : List Wrv} (h : Rq w wr g p st id plain v1 l1 v2 l2) (hb : Below wr.heap.size wr wx) : Rq w wx g p st id plain v1 l1 v2 l2 :=
  ⟨h.rd.later hb, h.only.then (hb.mono h.size), h.glt, h.plt, keepc hb h.zero, keepc hb h.box, owns_later h.o1 hb, owns_later h.o2 hb⟩
theorem Rq.grew1 {w wr wx : World} {g p : Nat} {st : Option (List Nat)} {id : Id} {plain : Bool} {v1 v2 v1' : Value} {l1 l1' : List Rdv} {l2 : List Wrv} (h : Rq w wr g p st id plain v1 l1 v2 l2) (hf : Fr w.heap.size [79] wr wx) (ho : wx.ownsRow w.heap.size 79 2 v1' l1'.length (l1'.flatMap Rdv.cells)) :
    Rd wx g st ∧ Only g w wx ∧ wx.heap[w.heap.size]? = some (.cells #[.int .i64 0, .int .u64 0, .bool false, .slice none 0 0, .slice none 0 0] 35) ∧ wx.heap[p]? = some (.cells #[.int .i64 id.1, .int .u64 id.2, .bool plain, v1, v2] 35) ∧ wx.ownsRow w.heap.size 80 3 v2 l2.length (l2.flatMap Wrv.cells) :=
  ⟨h.rd.below (hf.below h.size) h.glt, h.only.then (hf.below h.size), hf.cells h.zero (by decide), hf.cells h.box (by decide), hf.owns h.o2 (by decide)⟩
theorem Rq.grew2 {w wr wx : World} {g p : Nat} {st : Option (List Nat)} {id : Id} {plain : Bool} {v1 v2 v2' : Value} {l1 : List Rdv} {l2 l2' : List Wrv} (h : Rq w wr g p st id plain v1 l1 v2 l2) (hf : Fr w.heap.size [80] wr wx) (ho : wx.ownsRow w.heap.size 80 3 v2' l2'.length (l2'.flatMap Wrv.cells)) :
    Rd wx g st ∧ Only g w wx ∧ wx.heap[w.heap.size]? = some (.cells #[.int .i64 0, .int .u64 0, .bool false, .slice none 0 0, .slice none 0 0] 35) ∧ wx.heap[p]? = some (.cells #[.int .i64 id.1, .int .u64 id.2, .bool plain, v1, v2] 35) ∧ wx.ownsRow w.heap.size 79 2 v1 l1.length (l1.flatMap Rdv.cells) :=
  ⟨h.rd.below (hf.below h.size) h.glt, h.only.then (hf.below h.size), hf.cells h.zero (by decide), hf.cells h.box (by decide), hf.owns h.o1 (by decide)⟩
theorem owns_set {w : World} {base n m g j : Nat} {e t : TypeId} {v u : Value} {xs : List Value} {cs : Array Value} (h : w.ownsRow base e n v m xs) (hg : w.heap[g]? = some (.cells cs t (0, 0))) (ht : t ≠ e) : (w.setCell ⟨g, j, none⟩ u).ownsRow base e n v m xs := by
  obtain ⟨h1, h2⟩ := h
  refine ⟨h1, ?_⟩
  rcases h2 with h2 | ⟨k, cap, cur, q1, q2, q3, q4⟩
  · exact .inl h2
  · refine .inr ⟨k, cap, cur, q1, q2, ?_, q4⟩
    have hne : k ≠ g := by
      intro e1
      subst e1
      rw [q3] at hg
      simp only [Option.some.injEq, Obj.cells.injEq] at hg
      exact ht hg.2.1.symm
    rw [Below.heap_setCell _ _ _ _ hne]
    exact q3
theorem Rq.put1 {w wx : World} {g p : Nat} {st : Option (List Nat)} {id : Id} {plain : Bool} {v1 v2 v1' : Value} {l1' : List Rdv} {l2 : List Wrv} (hg : g < w.heap.size) (hp : w.heap.size < p)
    (h : Rd wx g st ∧ Only g w wx ∧ wx.heap[w.heap.size]? = some (.cells #[.int .i64 0, .int .u64 0, .bool false, .slice none 0 0, .slice none 0 0] 35) ∧ wx.heap[p]? = some (.cells #[.int .i64 id.1, .int .u64 id.2, .bool plain, v1, v2] 35) ∧ wx.ownsRow w.heap.size 80 3 v2 l2.length (l2.flatMap Wrv.cells)) (ho : wx.ownsRow w.heap.size 79 2 v1' l1'.length (l1'.flatMap Rdv.cells)) :
    Rq w (wx.setCell ⟨p, 3, none⟩ v1') g p st id plain v1' l1' v2 l2 := by
  obtain ⟨h1, h2, h3, h4, h5⟩ := h
  have hb : Below w.heap.size wx (wx.setCell ⟨p, 3, none⟩ v1') := (Below.refl _ _).setCell (p := ⟨p, 3, none⟩) (Nat.le_of_lt hp) _
  exact ⟨h1.below hb hg, h2.then hb, hg, hp, (Below.heap_setCell _ _ _ _ (by show w.heap.size ≠ p; omega)).trans h3, five_set3 h4, owns_set ho h4 (by decide), owns_set h5 h4 (by decide)⟩
theorem Rq.put2 {w wx : World} {g p : Nat} {st : Option (List Nat)} {id : Id} {plain : Bool} {v1 v2 v2' : Value} {l1 : List Rdv} {l2' : List Wrv} (hg : g < w.heap.size) (hp : w.heap.size < p)
    (h : Rd wx g st ∧ Only g w wx ∧ wx.heap[w.heap.size]? = some (.cells #[.int .i64 0, .int .u64 0, .bool false, .slice none 0 0, .slice none 0 0] 35) ∧ wx.heap[p]? = some (.cells #[.int .i64 id.1, .int .u64 id.2, .bool plain, v1, v2] 35) ∧ wx.ownsRow w.heap.size 79 2 v1 l1.length (l1.flatMap Rdv.cells)) (ho : wx.ownsRow w.heap.size 80 3 v2' l2'.length (l2'.flatMap Wrv.cells)) :
    Rq w (wx.setCell ⟨p, 4, none⟩ v2') g p st id plain v1 l1 v2' l2' := by
  obtain ⟨h1, h2, h3, h4, h5⟩ := h
  have hb : Below w.heap.size wx (wx.setCell ⟨p, 4, none⟩ v2') := (Below.refl _ _).setCell (p := ⟨p, 4, none⟩) (Nat.le_of_lt hp) _
  exact ⟨h1.below hb hg, h2.then hb, hg, hp, (Below.heap_setCell _ _ _ _ (by show w.heap.size ≠ p; omega)).trans h3, five_set4 h4, owns_set h5 h4 (by decide), owns_set ho h4 (by decide)⟩

set_option maxRecDepth 100000 in
theorem readID_any (g : Nat) (st : Option (List Nat)) (w : World) (h : Rd w g st) :
    Calls Tryd.prog 62 #[.pointer (some ⟨g, 0, none⟩)] w fun e w' => e = .returned (idv (rdId st).1) ∧ Rd w' g (rdId st).2 ∧ Only g w w' := by
  obtain ⟨X, hX⟩ : ∃ X, X = Oct.atMostI 5 st := ⟨_, rfl⟩
  obtain ⟨Y, hY⟩ : ∃ Y, Y = Oct.atMost 18446744073709551615 X.2 := ⟨_, rfl⟩
  have hI : rdId st = (((X.1 : Int), (Y.1 : Int)), Y.2) := by rw [hY, hX]; rfl
  rw [hI]
  have hb0 : Below w.heap.size w (w.alloc (.cells #[.int .i64 0, .int .u64 0] 24)) := (Below.refl _ _).alloc (Nat.le_refl _) _
  have hn0 := heap_alloc_new w (.cells #[.int .i64 0, .int .u64 0] 24)
  have HG : Hid (g < w.heap.size) := h.lt
  have hcall := int_any g 5 st _ (h.later hb0) (by decide)
  rw [← hX] at hcall
  go_enter Tryd.func62, Tryd.ntmps62
  go_wp2_with fail
  generalize w.alloc (.cells #[.int .i64 0, .int .u64 0] 24) = w0 at *
  refine hcall.mono ?_
  clear hcall
  rintro e w1 ⟨rfl, hd1, ho1⟩
  have HD1 : Hid (Rd w1 g X.2) := hd1
  have HO1 : Hid (Only g w w1) := ((Only.refl g w).then hb0).trans ho1
  have HN1 : Hid (w1.heap[w.heap.size]? = some (.cells #[.int .i64 0, .int .u64 0] 24)) := (ho1.fr (h.later hb0).tag).cells hn0 (by decide)
  have hcall := n_any g X.2 w1 hd1
  rw [← hY] at hcall
  clear hd1 ho1 hb0 hn0 hX hY hI h
  obtain ⟨xn, xs⟩ := X
  obtain ⟨yn, ys⟩ := Y
  simp only at hcall ⊢
  go_wp2_with fail
  refine hcall.mono ?_
  clear hcall
  rintro e w2 ⟨rfl, hd2, ho2⟩
  have HO2 : Hid (Only g w w2) := HO1.out.trans ho2
  have hn2 : w2.heap[w.heap.size]? = some (.cells #[.int .i64 0, .int .u64 0] 24) := (ho2.fr HD1.out.tag).cells HN1.out (by decide)
  have z0 : w2.cell? ⟨w.heap.size, 0, none⟩ = some (.int .i64 0) := cell_of_heap hn2 rfl
  have z1 : w2.cell? ⟨w.heap.size, 1, none⟩ = some (.int .u64 0) := cell_of_heap hn2 rfl
  have f0 : w2.frozen? ⟨w.heap.size, 0, none⟩ = false := frozen_of_row w2 _ _ _ _ hn2
  have f1 : w2.frozen? ⟨w.heap.size, 1, none⟩ = false := frozen_of_row w2 _ _ _ _ hn2
  have hq : ((w2.setCell ⟨w.heap.size, 0, none⟩ (.int .i64 (xn : Nat))).setCell ⟨w.heap.size, 1, none⟩ (.int .u64 (yn : Nat))).heap[w.heap.size]? = some (.cells #[.int .i64 (xn : Nat), .int .u64 (yn : Nat)] 24) := heap_setCell_same _ _ _ _ _ _ (heap_setCell_same _ _ _ _ _ _ hn2)
  have hbb : Below w.heap.size w2 ((w2.setCell ⟨w.heap.size, 0, none⟩ (.int .i64 (xn : Nat))).setCell ⟨w.heap.size, 1, none⟩ (.int .u64 (yn : Nat))) := ((Below.refl _ _).setCell (p := ⟨w.heap.size, 0, none⟩) (Nat.le_refl _) _).setCell (p := ⟨w.heap.size, 1, none⟩) (Nat.le_refl _) _
  have HF : Hid (Rd ((w2.setCell ⟨w.heap.size, 0, none⟩ (.int .i64 (xn : Nat))).setCell ⟨w.heap.size, 1, none⟩ (.int .u64 (yn : Nat))) g ys ∧ Only g w ((w2.setCell ⟨w.heap.size, 0, none⟩ (.int .i64 (xn : Nat))).setCell ⟨w.heap.size, 1, none⟩ (.int .u64 (yn : Nat)))) := ⟨hd2.below hbb HG.out, HO2.out.then hbb⟩
  have s0 := cell_of_heap (i := 0) hq rfl
  have s1 := cell_of_heap (i := 1) hq rfl
  clear hd2 ho2 hn2 hq hbb
  go_wp2
  refine bodyPost_ret (v := idv ((xn : Int), (yn : Int))) (by simp [results, Tryd.results62, go_sem, s0, s1]) rfl ?_
  exact ⟨rfl, HF.out.1, HF.out.2⟩
end Go.Proofs.YteokhedljfakkaaDoor
