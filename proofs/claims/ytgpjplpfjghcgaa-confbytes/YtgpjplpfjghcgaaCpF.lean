/- conf.readConf. -/
import Derived.Test.YtgpjplpfjghcgaaCpE
import Derived.Test.YtgpjplpfjghcgaaOctG
import Derived.Test.YtgpjplpfjghcgaaCoL
namespace Go.Proofs.Ytgpjplpfjghcgaa
open Go Go.RowKit
set_option linter.unusedVariables false
set_option linter.unusedSimpArgs false

/-- the members that stand next, and what is left -/
def readMs : Nat → Option (List Nat) → List Mb × Option (List Nat)
  | 0, st => ([], st)
  | k + 1, st => ((readMs k st).1 ++ [(((Oct.atMostI 7 (readMs k st).2).1 : Int), ((Oct.atMost 1 (Oct.atMostI 7 (readMs k st).2).2).1 : Int) == 1)], (Oct.atMost 1 (Oct.atMostI 7 (readMs k st).2).2).2)
theorem readMs_length (k : Nat) (st : Option (List Nat)) : (readMs k st).1.length = k := by
  induction k with
  | zero => rfl
  | succ k ih => simp [readMs, ih]
def rdE (st : Option (List Nat)) := Oct.atMost 18446744073709551615 st
def rdS (st : Option (List Nat)) := Oct.atMostI 3 (rdE st).2
def rdN (st : Option (List Nat)) := Oct.atMostI 8 (rdS st).2
def rdM (st : Option (List Nat)) := readMs (rdN st).1 (rdN st).2
def rdL (st : Option (List Nat)) := Oct.atMostI 8 (rdM st).2
/-- the configuration that stands next -/
def readC (st : Option (List Nat)) : Cf := ⟨(rdE st).1, ((rdS st).1 : Nat), (rdM st).1, if ((rdL st).1 : Int) = 8 then -1 else ((rdL st).1 : Nat)⟩

theorem Only.then {g : Nat} {w wr wx : World} (h : Only g w wr) (k : Below w.heap.size wr wx) : Only g w wx :=
  ⟨k.os.trans h.os, k.tape.trans h.tape, k.output.trans h.output, Nat.le_trans h.size k.size, fun i hi hne => (k.block i hi).trans (h.block i hi hne)⟩
theorem Rd.below {w wx : World} {g B : Nat} {st : Option (List Nat)} (h : Rd w g st) (hb : Below B w wx) (hg : g < B) : Rd wx g st := by
  cases st with
  | none => show wx.heap[g]? = _; rw [hb.block g hg]; exact h
  | some bs =>
    obtain ⟨a, n, cap, h, hr, h1, h2, h3, h4⟩ := h
    refine ⟨a, n, cap, by rw [hb.block g hg]; exact h, ⟨hr.1, hr.2.1, hr.2.2.1, ?_⟩, h1, h2, h3, h4⟩
    rcases hr.2.2.2 with e | ⟨b, off, e, hc⟩
    · exact .inl e
    · exact .inr ⟨b, off, e, fun i hi => by rw [hb.cell (show b < B from Nat.lt_trans (h4 _ e) hg)]; exact hc i hi⟩
theorem Rd.tag {w : World} {g : Nat} {st : Option (List Nat)} (h : Rd w g st) : tagOf w g = some 72 := by
  cases st with
  | none => exact tagOf_heap h
  | some bs => obtain ⟨a, n, cap, h, _⟩ := h; exact tagOf_heap h

/-- between a reader's calls: the reader, the answer's box, the configuration's box, its lists -/
structure Rr (w wr : World) (g p : Nat) (st : Option (List Nat)) (C : Array Value) (va : Value) (A : List Value) (vb : Value) (B : List Value) : Prop where
  rd : Rd wr g st
  only : Only g w wr
  glt : g < w.heap.size
  plt : w.heap.size < p
  zero : wr.heap[w.heap.size]? = some (.cells #[.int .u64 0, .int .i64 0, .slice none 0 0, .slice none 0 0, .int .i64 0] 29)
  box : wr.heap[p]? = some (.cells C 29)
  oa : OwnV wr w.heap.size 3 va A
  ob : OwnV wr w.heap.size 4 vb B
theorem Rr.call {w wr wx : World} {g p : Nat} {st st' : Option (List Nat)} {C : Array Value} {va vb : Value} {A B : List Value} (h : Rr w wr g p st C va A vb B) (hr : Rd wx g st') (ho : Only g wr wx) : Rr w wx g p st' C va A vb B :=
  ⟨hr, h.only.trans ho, h.glt, h.plt, heap_grown h.zero ho h.rd.tag (by decide), heap_grown h.box ho h.rd.tag (by decide), own_grown h.oa ho h.rd.tag (by decide), own_grown h.ob ho h.rd.tag (by decide)⟩
theorem Rr.size {w wr : World} {g p : Nat} {st : Option (List Nat)} {C : Array Value} {va vb : Value} {A B : List Value} (h : Rr w wr g p st C va A vb B) : w.heap.size ≤ wr.heap.size := h.only.size
theorem Rr.later {w wr wx : World} {g p : Nat} {st : Option (List Nat)} {C : Array Value} {va vb : Value} {A B : List Value} (h : Rr w wr g p st C va A vb B) (hb : Below wr.heap.size wr wx) : Rr w wx g p st C va A vb B :=
  ⟨h.rd.later hb, h.only.then (hb.mono h.size), h.glt, h.plt, heap_kept h.zero hb, heap_kept h.box hb, h.oa.later hb, h.ob.later hb⟩
theorem Rr.grewA {w wr wx : World} {g p : Nat} {st : Option (List Nat)} {C : Array Value} {va vb va' : Value} {A B A' : List Value} (h : Rr w wr g p st C va A vb B) (hf : Fr w.heap.size [3] wr wx) (ho : OwnV wx w.heap.size 3 va' A') : Rr w wx g p st C va' A' vb B :=
  ⟨h.rd.below (hf.below h.size) h.glt, h.only.then (hf.below h.size), h.glt, h.plt, hf.cells h.zero (by decide), hf.cells h.box (by decide), ho, hf.ownV h.ob (by decide)⟩
theorem Rr.grewB {w wr wx : World} {g p : Nat} {st : Option (List Nat)} {C : Array Value} {va vb vb' : Value} {A B B' : List Value} (h : Rr w wr g p st C va A vb B) (hf : Fr w.heap.size [4] wr wx) (ho : OwnV wx w.heap.size 4 vb' B') : Rr w wx g p st C va A vb' B' :=
  ⟨h.rd.below (hf.below h.size) h.glt, h.only.then (hf.below h.size), h.glt, h.plt, hf.cells h.zero (by decide), hf.cells h.box (by decide), hf.ownV h.oa (by decide), ho⟩
theorem Rr.stored {w wr : World} {g p i : Nat} {st : Option (List Nat)} {C : Array Value} {va vb : Value} {A B : List Value} (h : Rr w wr g p st C va A vb B) (v : Value) : Rr w (wr.setCell ⟨p, i, none⟩ v) g p st (C.setIfInBounds i v) va A vb B := by
  have hb : Below w.heap.size wr (wr.setCell ⟨p, i, none⟩ v) := (Below.refl _ _).setCell (p := ⟨p, i, none⟩) (Nat.le_of_lt h.plt) _
  exact ⟨h.rd.below hb h.glt, h.only.then hb, h.glt, h.plt, (heap_ne (by have := h.plt; omega)).trans h.zero, heap_setCell_same _ _ _ _ _ _ h.box,
    own_same h.oa (fun k _ ht => heap_ne (tag_ne h.box (by decide) ht)), own_same h.ob (fun k _ ht => heap_ne (tag_ne h.box (by decide) ht))⟩

end Go.Proofs.Ytgpjplpfjghcgaa
