/- What comes in: the law's moves. -/
import Derived.Test.YtlefaicdcomkjaaLiR
import Derived.Test.YtlefaicdcomkjaaLiN
import Derived.OpenShut
import Derived.Deep.Slices
namespace Go.Proofs.Ytlefaicdcomkjaa
open Go Go.RowKit Go.ChangeShapes Go.WideShapes
set_option linter.unusedVariables false
set_option linter.unusedSimpArgs false

abbrev Mv := Int × Int × Int × Int × Int
def mcells (m : Mv) : List Value := [.int .i64 m.1, .int .i64 m.2.1, .int .i64 m.2.2.1, .int .i64 m.2.2.2.1, .int .i64 m.2.2.2.2]
/-- the five cells of a move -/
def MvAt (w : World) (b o : Nat) (m : Mv) : Prop := w.cell? ⟨b, o, none⟩ = some (.int .i64 m.1) ∧ w.cell? ⟨b, o + 1, none⟩ = some (.int .i64 m.2.1) ∧ w.cell? ⟨b, o + 2, none⟩ = some (.int .i64 m.2.2.1) ∧ w.cell? ⟨b, o + 3, none⟩ = some (.int .i64 m.2.2.2.1) ∧ w.cell? ⟨b, o + 4, none⟩ = some (.int .i64 m.2.2.2.2)
/-- the law's moves, as a slice's elements lie in memory -/
def Mvs (w : World) (a : Option Addr) (n : Nat) (O : Nat → Mv) : Prop :=
  n ≤ maxLen ∧ (n = 0 ∨ ∃ b off, a = some ⟨b, off, none⟩ ∧ ∀ i, i < n → MvAt w b (off + i * 5) (O i))
theorem Mvs.at {w : World} {a : Option Addr} {n : Nat} {O : Nat → Mv} (h : Mvs w a n O) (hn : 0 < n) : ∃ b off, a = some ⟨b, off, none⟩ ∧ ∀ i, i < n → MvAt w b (off + i * 5) (O i) := by
  rcases h.2 with h | h
  · omega
  · exact h
theorem Try.cells68 : Try.prog.cellsOf 68 = 5 := by kernel_rfl
theorem Try.cells3m : Try.prog.cellsOf 3 = 1 := by kernel_rfl
set_option maxRecDepth 100000 in
theorem open_mv {H : Type} {enc : TypeId × Value → H} {w : World} {base : Nat} {spare : Nat → Bool} {held : Bool} {fuel : Nat} {cs : List Value} {x : DataW H × List MemPlace} (h : DataW.trod enc Try.prog w base spare held fuel 68 cs = some x) :
    ∃ m : Mv, cs = mcells m := by
  obtain ⟨xs, m, _, hx0, hl, _, hf⟩ := DataW.trod_struct Try.underlying68 h
  rw [Try.cells68] at hl
  match cs, hl with
  | [c0, c1, c2, c3, c4], _ =>
    have g0 := hf 0 _ rfl
    have g1 := hf 1 _ rfl
    have g2 := hf 2 _ rfl
    have g3 := hf 3 _ rfl
    have g4 := hf 4 _ rfl
    simp [Try.cells3m] at g0 g1 g2 g3 g4
    have some_of : ∀ {t : TypeId} {cs : List Value} {i : Nat}, i < xs.length → DataW.trod enc Try.prog w base spare held m t cs = xs[i]? → ∃ y, DataW.trod enc Try.prog w base spare held m t cs = some y := by
      intro t cs i hi he
      rw [List.getElem?_eq_getElem hi] at he
      exact ⟨_, he⟩
    have hxl : xs.length = 5 := by first | exact hx0 | (rename_i hx _; exact hx)
    obtain ⟨y0, g0⟩ := some_of (by omega) g0
    obtain ⟨y1, g1⟩ := some_of (by omega) g1
    obtain ⟨y2, g2⟩ := some_of (by omega) g2
    obtain ⟨y3, g3⟩ := some_of (by omega) g3
    obtain ⟨y4, g4⟩ := some_of (by omega) g4
    obtain ⟨n0, e0, _, w0⟩ := DataW.trod_int Try.underlying3 g0
    obtain ⟨n1, e1, _, w1⟩ := DataW.trod_int Try.underlying3 g1
    obtain ⟨n2, e2, _, w2⟩ := DataW.trod_int Try.underlying3 g2
    obtain ⟨n3, e3, _, w3⟩ := DataW.trod_int Try.underlying3 g3
    obtain ⟨n4, e4, _, w4⟩ := DataW.trod_int Try.underlying3 g4
    simp only [List.cons.injEq, and_true] at e0 e1 e2 e3 e4
    subst e0 e1 e2 e3 e4
    exact ⟨(n0, n1, n2, n3, n4), rfl⟩
theorem Try.underlying65' : Try.prog.underlying 65 = some (.slice 68) := by kernel_rfl
set_option maxRecDepth 100000 in
theorem open_mvs {H : Type} {enc : TypeId × Value → H} {w : World} {base : Nat} {spare : Nat → Bool} {held : Bool} {a : Option Addr} {len cap : Nat} {d : DataW H} {ps : List MemPlace} (h : DataW.Trod enc Try.prog w base spare held 65 (.slice a len cap) d ps) :
    ∃ O, Mvs w a len O := by
  obtain ⟨fuel, hf⟩ := h
  rcases Go.Deep.open_slice Try.underlying65' hf with ⟨hcs, _⟩ | ⟨x, l, c, m, q, D, Pl, hcs, _, hl, hm, hmm, _, hx⟩
  · simp [Value.cells] at hcs
    obtain ⟨rfl, rfl, rfl⟩ := hcs
    exact ⟨fun _ => (0, 0, 0, 0, 0), Nat.zero_le _, .inl rfl⟩
  · simp [Value.cells] at hcs
    obtain ⟨rfl, rfl, rfl⟩ := hcs
    have hlm : len ≤ m := by rw [hmm]; split <;> omega
    haveI : Inhabited Mv := ⟨(0, 0, 0, 0, 0)⟩
    obtain ⟨O, hO⟩ := Go.Deep.choose_lt (α := Mv) (p := fun i v => ∃ b off, some x = some (⟨b, off, none⟩ : Addr) ∧ MvAt w b (off + i * 5) v) (n := len) (fun i hi => by
      obtain ⟨cs', h1, h2⟩ := hx i (by omega)
      obtain ⟨v, rfl⟩ := open_mv h2
      rw [Try.cells68] at h1
      obtain ⟨_, _, hcell⟩ := World.cells?_some h1
      obtain ⟨b, off, spot⟩ := x
      have hspot : spot = none := by
        obtain ⟨cs0, g1, g2⟩ := hx 0 (by omega)
        obtain ⟨o0, rfl⟩ := open_mv g2
        rw [Try.cells68] at g1
        have := (World.cells?_some g1).2.2 0 (by omega)
        simpa [Addr.add] using World.cell?_spot this
      subst hspot
      refine ⟨v, b, off, rfl, ?_⟩
      have c0 := hcell 0 (by omega)
      have c1 := hcell 1 (by omega)
      have c2 := hcell 2 (by omega)
      have c3 := hcell 3 (by omega)
      have c4 := hcell 4 (by omega)
      rw [Addr.add_lit, Addr.add_lit] at c0 c1 c2 c3 c4
      exact ⟨c0, c1, c2, c3, c4⟩)
    refine ⟨O, by omega, ?_⟩
    rcases Nat.eq_zero_or_pos len with rfl | hpos
    · exact .inl rfl
    · obtain ⟨b, off, e0, _⟩ := hO 0 hpos
      refine .inr ⟨b, off, e0, fun i hi => ?_⟩
      obtain ⟨b', off', e1, hc⟩ := hO i hi
      rw [e0] at e1
      simp only [Option.some.injEq, Addr.mk.injEq] at e1
      obtain ⟨rfl, rfl, _⟩ := e1
      exact hc

/-- three logs and the slice of them -/
structure Three (w : World) (p sb : Nat) (G : Nat → Nat) (B : Nat → Option Nat) (X : Nat → Lo) : Prop where
  cells : ∀ x, x < 3 → w.cell? ⟨sb, x, none⟩ = some (.pointer (some ⟨G x, 0, none⟩))
  tag : tagOf w sb = some 23
  lg : ∀ x, x < 3 → Lg w (G x) (B x) (flatL (X x))
  ne : ∀ x y, x < 3 → y < 3 → x ≠ y → G x ≠ G y ∧ ∀ k, B x = some k → B y ≠ some k
  low : p ≤ sb ∧ (∀ x, x < 3 → p ≤ G x) ∧ ∀ x k, x < 3 → B x = some k → p ≤ k
theorem Three.later {w w' : World} {p sb : Nat} {G : Nat → Nat} {B : Nat → Option Nat} {X : Nat → Lo} (h : Three w p sb G B X) (hb : Below w.heap.size w w') : Three w' p sb G B X :=
  ⟨fun x hx => cell_later (h.cells x hx) hb, by have := h.tag; rw [tagOf, hb.block sb (tag_lt this)]; exact this, fun x hx => (h.lg x hx).later hb, h.ne, h.low⟩
theorem Three.lt {w : World} {p sb : Nat} {G : Nat → Nat} {B : Nat → Option Nat} {X : Nat → Lo} (h : Three w p sb G B X) : p ≤ w.heap.size := Nat.le_trans h.low.1 (Nat.le_of_lt (tag_lt h.tag))
/-- one of the logs was written -/
theorem Three.set {w w' : World} {p sb : Nat} {G : Nat → Nat} {B : Nat → Option Nat} {X : Nat → Lo} (h : Three w p sb G B X) {a : Nat} (ha : a < 3) {ob' : Option Nat} {A : Lo} (hl : Lg w' (G a) ob' (flatL A)) (hk : Kp w w' (G a) (B a)) (ho : ob' = B a ∨ ∃ k, ob' = some k ∧ w.heap.size ≤ k) :
    ∃ B', Three w' p sb G B' (upd X a A) ∧ Below p w w' := by
  have hga := h.lg a ha
  obtain ⟨t1, t2⟩ := hga.tags
  have hsg : sb ≠ G a := fun e => by have := h.tag; rw [e, t1] at this; cases this
  have hsb : some sb ≠ B a := fun e => by have := h.tag; rw [t2 sb e.symm] at this; cases this
  have hblk : w'.heap[sb]? = w.heap[sb]? := hk.block sb (tag_lt h.tag) hsg hsb
  refine ⟨fun x => if x = a then ob' else B x, ⟨fun x hx => ?_, ?_, fun x hx => ?_, fun x y hx hy hxy => ⟨(h.ne x y hx hy hxy).1, fun k hk1 hk2 => ?_⟩, h.low.1, h.low.2.1, fun x k hx hxk => ?_⟩, hk.below h.lt (h.low.2.1 a ha) (fun k hk => h.low.2.2 a k ha hk)⟩
  · rw [World.cell?_of_block hblk]; exact h.cells x hx
  · rw [tagOf, hblk]; exact h.tag
  · by_cases e : x = a
    · subst e
      rw [if_pos rfl, upd_same]
      exact hl
    · rw [if_neg e, upd_other _ _ _ _ e]
      exact hga.keep (h.lg x hx) hk (h.ne x a hx ha e).1 (fun k hk1 hk2 => (h.ne x a hx ha e).2 k hk1 hk2)
  · have old : ∀ z k, z < 3 → B z = some k → k < w.heap.size := fun z k hz hzk => tag_lt ((h.lg z hz).tags.2 k hzk)
    by_cases ex : x = a
    · rw [if_pos ex] at hk1
      rw [if_neg (by rw [← ex]; exact fun e => hxy e.symm)] at hk2
      rcases ho with e | ⟨k', e, hk'⟩
      · exact (h.ne x y hx hy hxy).2 k (by rw [ex, ← e]; exact hk1) hk2
      · rw [e] at hk1
        simp only [Option.some.injEq] at hk1
        have := old y k hy hk2
        omega
    · rw [if_neg ex] at hk1
      by_cases ey : y = a
      · rw [if_pos ey] at hk2
        rcases ho with e | ⟨k', e, hk'⟩
        · exact (h.ne x y hx hy hxy).2 k hk1 (by rw [ey, ← e]; exact hk2)
        · rw [e] at hk2
          simp only [Option.some.injEq] at hk2
          have := old x k hx hk1
          omega
      · rw [if_neg ey] at hk2
        exact (h.ne x y hx hy hxy).2 k hk1 hk2
  · by_cases e : x = a
    · rw [if_pos e] at hxk
      rcases ho with e2 | ⟨k', e2, hk'⟩
      · exact h.low.2.2 a k ha (by rw [← e2]; exact hxk)
      · rw [e2] at hxk
        simp only [Option.some.injEq] at hxk
        have := h.lt
        omega
    · rw [if_neg e] at hxk
      exact h.low.2.2 x k hx hxk
end Go.Proofs.Ytlefaicdcomkjaa
