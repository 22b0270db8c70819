/- The law's calls that came in. -/
import Derived.Test.YtophkidigajliaaSeC
import Derived.OpenShut
import Derived.Deep.Slices
namespace Go.Proofs.Ytophkidigajliaa
open Go.RowKit Go.ChangeShapes Go.WideShapes
set_option linter.unusedVariables false
set_option linter.unusedSimpArgs false

theorem cell_later {w wx : World} {a : Addr} {v : Value} (hb : Below w.heap.size w wx) (h : w.cell? a = some v) : wx.cell? a = some v := by
  rw [World.cell?_of_block (hb.block a.block (World.block_lt_of_cell? w _ h))]
  exact h
/-- one of the law's calls -/
structure Lop where
  kind : Int
  id : Id
  at_ : Int
  code : Int
  num : Int
structure Lop.ok (o : Lop) : Prop where
  kind : (Lit.int .i64 o.kind).wf = true
  id1 : (Lit.int .i64 o.id.1).wf = true
  id2 : (Lit.int .u64 o.id.2).wf = true
  at_ : (Lit.int .i64 o.at_).wf = true
  code : (Lit.int .i64 o.code).wf = true
  num : (Lit.int .u64 o.num).wf = true
def Lop.cells (o : Lop) : List Value := [.int .i64 o.kind, .int .i64 o.id.1, .int .u64 o.id.2, .int .i64 o.at_, .int .i64 o.code, .int .u64 o.num]
abbrev lopv (o : Lop) : Value := .agg #[.int .i64 o.kind, .int .i64 o.id.1, .int .u64 o.id.2, .int .i64 o.at_, .int .i64 o.code, .int .u64 o.num]
theorem Try.cells33 : Try.prog.cellsOf 33 = 6 := by kernel_rfl
theorem Try.cells25 : Try.prog.cellsOf 25 = 2 := by kernel_rfl
theorem Try.cells3' : Try.prog.cellsOf 3 = 1 := by kernel_rfl
theorem Try.cells23' : Try.prog.cellsOf 23 = 1 := by kernel_rfl
set_option maxRecDepth 100000 in
theorem open_idc {H : Type} {enc : TypeId × Value → H} {w : World} {base : Nat} {spare : Nat → Bool} {held : Bool} {fuel : Nat} {cs : List Value} {x : DataW H × List MemPlace} (h : DataW.trod enc Try.prog w base spare held fuel 25 cs = some x) :
    ∃ id : Id, cs = [.int .i64 id.1, .int .u64 id.2] ∧ (Lit.int .i64 id.1).wf = true ∧ (Lit.int .u64 id.2).wf = true := by
  obtain ⟨xs, m, _, hx0, hl, _, hf⟩ := DataW.trod_struct Try.underlying25 h
  rw [Try.cells25] at hl
  match cs, hl with
  | [c0, c1], _ =>
    have g0 := hf 0 _ rfl
    have g1 := hf 1 _ rfl
    simp [Try.cells3', Try.cells23'] at g0 g1
    have some_of : ∀ {t : TypeId} {cs : List Value} {i : Nat}, i < xs.length → DataW.trod enc Try.prog w base spare held m t cs = xs[i]? → ∃ y, DataW.trod enc Try.prog w base spare held m t cs = some y := by
      intro t cs i hi he
      rw [List.getElem?_eq_getElem hi] at he
      exact ⟨_, he⟩
    have hxl : xs.length = 2 := by first | exact hx0 | (rename_i hx _; exact hx)
    obtain ⟨y0, g0⟩ := some_of (by omega) g0
    obtain ⟨y1, g1⟩ := some_of (by omega) g1
    obtain ⟨n0, e0, _, w0⟩ := DataW.trod_int Try.underlying3 g0
    obtain ⟨n1, e1, _, w1⟩ := DataW.trod_int Try.underlying23 g1
    simp only [List.cons.injEq, and_true] at e0 e1
    subst e0 e1
    exact ⟨(n0, n1), rfl, w0, w1⟩
set_option maxRecDepth 100000 in
theorem open_lopc {H : Type} {enc : TypeId × Value → H} {w : World} {base : Nat} {spare : Nat → Bool} {held : Bool} {fuel : Nat} {cs : List Value} {x : DataW H × List MemPlace} (h : DataW.trod enc Try.prog w base spare held fuel 33 cs = some x) :
    ∃ o : Lop, o.ok ∧ cs = o.cells := by
  obtain ⟨xs, m, _, hx0, hl, _, hf⟩ := DataW.trod_struct Try.underlying33 h
  rw [Try.cells33] at hl
  match cs, hl with
  | [c0, c1, c2, c3, c4, c5], _ =>
    have g0 := hf 0 _ rfl
    have g1 := hf 1 _ rfl
    have g2 := hf 2 _ rfl
    have g3 := hf 3 _ rfl
    have g4 := hf 4 _ rfl
    simp [Try.cells3', Try.cells25, Try.cells23'] at g0 g1 g2 g3 g4
    have some_of : ∀ {t : TypeId} {cs : List Value} {i : Nat}, i < xs.length → DataW.trod enc Try.prog w base spare held m t cs = xs[i]? → ∃ y, DataW.trod enc Try.prog w base spare held m t cs = some y := by
      intro t cs i hi he
      rw [List.getElem?_eq_getElem hi] at he
      exact ⟨_, he⟩
    have hxl : xs.length = 5 := by first | exact hx0 | (rename_i hx _; exact hx)
    obtain ⟨y0, g0⟩ := some_of (by omega) g0
    obtain ⟨y1, g1⟩ := some_of (by omega) g1
    obtain ⟨y2, g2⟩ := some_of (by omega) g2
    obtain ⟨y3, g3⟩ := some_of (by omega) g3
    obtain ⟨y4, g4⟩ := some_of (by omega) g4
    obtain ⟨n0, e0, _, w0⟩ := DataW.trod_int Try.underlying3 g0
    obtain ⟨id, e1, w1, w2⟩ := open_idc g1
    obtain ⟨n2, e2, _, w3⟩ := DataW.trod_int Try.underlying3 g2
    obtain ⟨n3, e3, _, w4⟩ := DataW.trod_int Try.underlying3 g3
    obtain ⟨n4, e4, _, w5⟩ := DataW.trod_int Try.underlying23 g4
    simp only [List.cons.injEq, and_true] at e0 e1 e2 e3 e4
    obtain ⟨rfl, rfl⟩ := e1
    subst e0 e2 e3 e4
    exact ⟨⟨n0, id, n2, n3, n4⟩, ⟨w0, w1, w2, w3, w4, w5⟩, rfl⟩
theorem open_lop {H : Type} {enc : TypeId × Value → H} {w : World} {base : Nat} {spare : Nat → Bool} {held : Bool} {r : Reach} {b0 : Nat} {v : Value} {d : DataW H} {ps : List MemPlace} (hval : Value.okWide Try.prog w r b0 33 v) (hd : DataW.Trod enc Try.prog w base spare held 33 v d ps) :
    ∃ o : Lop, v = lopv o ∧ o.ok := by
  obtain ⟨cs, rfl, hsz⟩ := okWide_struct Try.underlying33 hval
  obtain ⟨fuel, hf⟩ := hd
  have hf : DataW.trod enc Try.prog w base spare held fuel 33 cs.toList = some (d, ps) := hf
  obtain ⟨o, h1, h2⟩ := open_lopc hf
  refine ⟨o, ?_, h1⟩
  have : cs = o.cells.toArray := by rw [← h2]
  rw [this]
  rfl
theorem open_id {H : Type} {enc : TypeId × Value → H} {w : World} {base : Nat} {spare : Nat → Bool} {held : Bool} {r : Reach} {b0 : Nat} {v : Value} {d : DataW H} {ps : List MemPlace} (hval : Value.okWide Try.prog w r b0 25 v) (hd : DataW.Trod enc Try.prog w base spare held 25 v d ps) :
    ∃ id : Id, v = idv id ∧ (Lit.int .i64 id.1).wf = true ∧ (Lit.int .u64 id.2).wf = true := by
  obtain ⟨cs, rfl, hsz⟩ := okWide_struct Try.underlying25 hval
  obtain ⟨fuel, hf⟩ := hd
  have hf : DataW.trod enc Try.prog w base spare held fuel 25 cs.toList = some (d, ps) := hf
  obtain ⟨id, h2, h1⟩ := open_idc hf
  refine ⟨id, ?_, h1⟩
  have : cs = #[.int .i64 id.1, .int .u64 id.2] := by
    have := congrArg List.toArray h2
    simpa using this
  rw [this]

/-- the law's calls, as a slice's elements lie in memory -/
def Lops (w : World) (a : Option Addr) (n : Nat) (O : Nat → Lop) : Prop :=
  n ≤ maxLen ∧ (n = 0 ∨ ∃ b off, a = some ⟨b, off, none⟩ ∧ ∀ i, i < n → (O i).ok ∧ w.cell? ⟨b, off + i * 6, none⟩ = some (.int .i64 (O i).kind) ∧ w.cell? ⟨b, off + i * 6 + 1, none⟩ = some (.int .i64 (O i).id.1) ∧ w.cell? ⟨b, off + i * 6 + 2, none⟩ = some (.int .u64 (O i).id.2) ∧ w.cell? ⟨b, off + i * 6 + 3, none⟩ = some (.int .i64 (O i).at_) ∧ w.cell? ⟨b, off + i * 6 + 4, none⟩ = some (.int .i64 (O i).code) ∧ w.cell? ⟨b, off + i * 6 + 5, none⟩ = some (.int .u64 (O i).num))
theorem Lops.at {w : World} {a : Option Addr} {n : Nat} {O : Nat → Lop} (h : Lops w a n O) (hn : 0 < n) : ∃ b off, a = some ⟨b, off, none⟩ ∧ ∀ i, i < n → (O i).ok ∧ w.cell? ⟨b, off + i * 6, none⟩ = some (.int .i64 (O i).kind) ∧ w.cell? ⟨b, off + i * 6 + 1, none⟩ = some (.int .i64 (O i).id.1) ∧ w.cell? ⟨b, off + i * 6 + 2, none⟩ = some (.int .u64 (O i).id.2) ∧ w.cell? ⟨b, off + i * 6 + 3, none⟩ = some (.int .i64 (O i).at_) ∧ w.cell? ⟨b, off + i * 6 + 4, none⟩ = some (.int .i64 (O i).code) ∧ w.cell? ⟨b, off + i * 6 + 5, none⟩ = some (.int .u64 (O i).num) := by
  rcases h.2 with h | h
  · omega
  · exact h
theorem Lops.later {w wx : World} {a : Option Addr} {n : Nat} {O : Nat → Lop} (h : Lops w a n O) (hb : Below w.heap.size w wx) : Lops wx a n O := by
  refine ⟨h.1, ?_⟩
  rcases h.2 with h | ⟨b, off, e, hc⟩
  · exact .inl h
  · refine .inr ⟨b, off, e, fun i hi => ?_⟩
    obtain ⟨h0, c0, c1, c2, c3, c4, c5⟩ := hc i hi
    exact ⟨h0, cell_later hb c0, cell_later hb c1, cell_later hb c2, cell_later hb c3, cell_later hb c4, cell_later hb c5⟩
theorem Try.underlying22' : Try.prog.underlying 22 = some (.slice 33) := by kernel_rfl
set_option maxRecDepth 100000 in
theorem open_lops {H : Type} {enc : TypeId × Value → H} {w : World} {base : Nat} {spare : Nat → Bool} {held : Bool} {a : Option Addr} {len cap : Nat} {d : DataW H} {ps : List MemPlace} (h : DataW.Trod enc Try.prog w base spare held 22 (.slice a len cap) d ps) :
    ∃ O, Lops w a len O := by
  obtain ⟨fuel, hf⟩ := h
  rcases Go.Deep.open_slice Try.underlying22' hf with ⟨hcs, _⟩ | ⟨x, l, c, m, q, D, Pl, hcs, _, hl, hm, hmm, _, hx⟩
  · simp [Value.cells] at hcs
    obtain ⟨rfl, rfl, rfl⟩ := hcs
    exact ⟨fun _ => ⟨0, (0, 0), 0, 0, 0⟩, Nat.zero_le _, .inl rfl⟩
  · simp [Value.cells] at hcs
    obtain ⟨rfl, rfl, rfl⟩ := hcs
    have hlm : len ≤ m := by rw [hmm]; split <;> omega
    haveI : Inhabited Lop := ⟨⟨0, (0, 0), 0, 0, 0⟩⟩
    obtain ⟨O, hO⟩ := Go.Deep.choose_lt (α := Lop) (p := fun i v => v.ok ∧ ∃ b off, some x = some (⟨b, off, none⟩ : Addr) ∧
      w.cell? ⟨b, off + i * 6, none⟩ = some (.int .i64 v.kind) ∧ w.cell? ⟨b, off + i * 6 + 1, none⟩ = some (.int .i64 v.id.1) ∧ w.cell? ⟨b, off + i * 6 + 2, none⟩ = some (.int .u64 v.id.2) ∧ w.cell? ⟨b, off + i * 6 + 3, none⟩ = some (.int .i64 v.at_) ∧ w.cell? ⟨b, off + i * 6 + 4, none⟩ = some (.int .i64 v.code) ∧ w.cell? ⟨b, off + i * 6 + 5, none⟩ = some (.int .u64 v.num)) (n := len) (fun i hi => by
      obtain ⟨cs', h1, h2⟩ := hx i (by omega)
      obtain ⟨v, hv, rfl⟩ := open_lopc h2
      rw [Try.cells33] at h1
      obtain ⟨_, _, hcell⟩ := World.cells?_some h1
      obtain ⟨b, off, spot⟩ := x
      have hspot : spot = none := by
        obtain ⟨cs0, g1, g2⟩ := hx 0 (by omega)
        obtain ⟨o0, _, rfl⟩ := open_lopc g2
        rw [Try.cells33] at g1
        have := (World.cells?_some g1).2.2 0 (by omega)
        simpa [Addr.add] using World.cell?_spot this
      subst hspot
      refine ⟨v, hv, b, off, rfl, ?_⟩
      have c0 := hcell 0 (by omega)
      have c1 := hcell 1 (by omega)
      have c2 := hcell 2 (by omega)
      have c3 := hcell 3 (by omega)
      have c4 := hcell 4 (by omega)
      have c5 := hcell 5 (by omega)
      rw [Addr.add_lit, Addr.add_lit] at c0 c1 c2 c3 c4 c5
      exact ⟨c0, c1, c2, c3, c4, c5⟩)
    refine ⟨O, by omega, ?_⟩
    rcases Nat.eq_zero_or_pos len with rfl | hpos
    · exact .inl rfl
    · obtain ⟨_, b, off, e0, _⟩ := hO 0 hpos
      refine .inr ⟨b, off, e0, fun i hi => ?_⟩
      obtain ⟨hok, b', off', e1, hc⟩ := hO i hi
      rw [e0] at e1
      simp only [Option.some.injEq, Addr.mk.injEq] at e1
      obtain ⟨rfl, rfl, _⟩ := e1
      exact ⟨hok, hc⟩
end Go.Proofs.Ytophkidigajliaa
