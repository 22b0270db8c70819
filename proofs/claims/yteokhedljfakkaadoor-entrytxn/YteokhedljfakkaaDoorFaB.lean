/- Faults in memory: a number, with places wrapped around it. -/
import Derived.Test.YteokhedljfakkaaDoorFaA
namespace Go.Proofs.YteokhedljfakkaaDoor
open Go.RowKit Go.Extern.Stop Go.Stop Go.Extern

/-- an error: the number n, with these places around it, the outermost one first -/
def Errv (w : World) (n : Int) : List ByteArray → Value → Prop
  | [], v => v = .iface 29 (.int .i64 n)
  | s :: qs, v => ∃ b u, v = .iface 106 (.pointer (some ⟨b, 0, none⟩)) ∧ w.heap[b]? = some (.cells #[.string s, u] 108 (0, 0)) ∧ Errv w n qs u

/-- the outermost fault of such an error, if there is one -/
def Ptr (w : World) (n : Int) : List ByteArray → Value → Prop
  | [], v => v = .pointer none
  | s :: qs, v => ∃ b u, v = .pointer (some ⟨b, 0, none⟩) ∧ w.heap[b]? = some (.cells #[.string s, u] 108 (0, 0)) ∧ Errv w n qs u

/-- the variable of package errors that holds the type 'error' -/
def G (w : World) : Prop := w.cell? ⟨0, 0, none⟩ = some (.iface 143 (.agg #[.pointer (some ⟨1, 73, none⟩)]))

theorem heap_lt {w : World} {b : Nat} {o : Obj} (h : w.heap[b]? = some o) : b < w.heap.size := (Array.getElem?_eq_some_iff.1 h).1

theorem Errv.later {w wx : World} {n : Int} : ∀ {qs : List ByteArray} {v : Value}, Errv w n qs v → Below w.heap.size w wx → Errv wx n qs v
  | [], _, h, _ => h
  | _ :: _, _, ⟨b, u, h1, h2, h3⟩, hb => ⟨b, u, h1, by rw [hb.block b (heap_lt h2)]; exact h2, Errv.later h3 hb⟩
theorem Ptr.later {w wx : World} {n : Int} : ∀ {qs : List ByteArray} {v : Value}, Ptr w n qs v → Below w.heap.size w wx → Ptr wx n qs v
  | [], _, h, _ => h
  | _ :: _, _, ⟨b, u, h1, h2, h3⟩, hb => ⟨b, u, h1, by rw [hb.block b (heap_lt h2)]; exact h2, Errv.later h3 hb⟩

theorem Errv.same {w : World} {n : Int} : ∀ {qs rs : List ByteArray} {v : Value}, Errv w n qs v → Errv w n rs v → qs = rs
  | [], [], _, _, _ => rfl
  | [], _ :: _, _, h, ⟨_, _, h1, _⟩ => by subst h; simp at h1
  | _ :: _, [], _, ⟨_, _, h1, _⟩, h => by subst h; simp at h1
  | _ :: _, _ :: _, _, ⟨b, u, h1, h2, h3⟩, ⟨b', u', h1', h2', h3'⟩ => by
    subst h1
    simp only [Value.iface.injEq, Value.pointer.injEq, Option.some.injEq, Addr.mk.injEq, true_and, and_true] at h1'
    subst h1'
    rw [h2] at h2'
    simp only [Option.some.injEq, Obj.cells.injEq, Array.mk.injEq, List.cons.injEq, Value.string.injEq, and_true] at h2'
    obtain ⟨rfl, rfl⟩ := h2'
    rw [Errv.same h3 h3']
theorem Ptr.same {w : World} {n : Int} : ∀ {qs rs : List ByteArray} {v : Value}, Ptr w n qs v → Ptr w n rs v → qs = rs
  | [], [], _, _, _ => rfl
  | [], _ :: _, _, h, ⟨_, _, h1, _⟩ => by subst h; simp at h1
  | _ :: _, [], _, ⟨_, _, h1, _⟩, h => by subst h; simp at h1
  | _ :: _, _ :: _, _, ⟨b, u, h1, h2, h3⟩, ⟨b', u', h1', h2', h3'⟩ => by
    subst h1
    simp only [Value.pointer.injEq, Option.some.injEq, Addr.mk.injEq, and_true] at h1'
    subst h1'
    rw [h2] at h2'
    simp only [Option.some.injEq, Obj.cells.injEq, Array.mk.injEq, List.cons.injEq, Value.string.injEq, and_true] at h2'
    obtain ⟨rfl, rfl⟩ := h2'
    rw [Errv.same h3 h3']

theorem Errv.depth (w : World) (n : Int) : ∃ d : Value → Nat, ∀ qs v, Errv w n qs v → d v = qs.length := by
  classical
  refine ⟨fun v => if h : ∃ qs, Errv w n qs v then (Classical.choose h).length else 0, fun qs v h => ?_⟩
  have h' : ∃ qs, Errv w n qs v := ⟨qs, h⟩
  simp only [h', dif_pos]
  rw [(Classical.choose_spec h').same h]
theorem Ptr.depth (w : World) (n : Int) : ∃ d : Value → Nat, ∀ qs v, Ptr w n qs v → d v = qs.length := by
  classical
  refine ⟨fun v => if h : ∃ qs, Ptr w n qs v then (Classical.choose h).length else 0, fun qs v h => ?_⟩
  have h' : ∃ qs, Ptr w n qs v := ⟨qs, h⟩
  simp only [h', dif_pos]
  rw [(Classical.choose_spec h').same h]

theorem G.pos {w : World} (hg : G w) : 0 < w.heap.size := by
  rcases Nat.eq_zero_or_pos w.heap.size with h0 | h
  · simp [G, World.cell?, h0] at hg
  · exact h
theorem G.later {w wx : World} (hg : G w) (hb : Below w.heap.size w wx) : G wx := cell_later hb hg
theorem G.alloc {w : World} (hg : G w) (o : Obj) : G (w.alloc o) := hg.later ((Below.refl _ _).alloc (Nat.le_refl _) o)
theorem cell_lt {w : World} {t : Addr} {v : Value} (h : w.cell? t = some v) : t.block < w.heap.size := by
  rcases Nat.lt_or_ge t.block w.heap.size with h1 | h1
  · exact h1
  · simp [World.cell?, Array.getElem?_eq_none h1] at h
end Go.Proofs.YteokhedljfakkaaDoor
