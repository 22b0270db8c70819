/- The law's calls that came in. -/
import Derived.Test.YtbhohedkgeokgaaLkD
import Derived.OpenShut
import Derived.Deep.Slices
import Derived.SliceStrings
namespace Go.Proofs.Ytbhohedkgeokgaa
open Go.RowKit Go.ChangeShapes Go.WideShapes
set_option linter.unusedVariables false
set_option linter.unusedSimpArgs false

theorem Strs.none {w : World} {a : Option Addr} (S : Nat → ByteArray) : Strs w a 0 S := ⟨Nat.zero_le _, .inl rfl⟩
theorem Strs.of {w : World} {x : Addr} {len cap : Nat} {ss : List ByteArray} (hl : len ≤ cap) (hm : cap ≤ maxLen) (hz : len ≤ ss.length)
    (hcell : ∀ i, i < ss.length → w.cell? (x.add i) = some (.string (ss.getD i ByteArray.empty))) (hw : ∀ s ∈ ss, s.size ≤ maxLen) : Strs w (some x) len (fun i => ss.getD i ByteArray.empty) := by
  refine ⟨by omega, ?_⟩
  by_cases h0 : len = 0
  · exact .inl h0
  · right
    obtain ⟨b, off, spot⟩ := x
    have hc := hcell 0 (by omega)
    have hspot : spot = .none := by simpa [Addr.add] using World.cell?_spot hc
    subst hspot
    refine ⟨b, off, rfl, fun j hj => ?_⟩
    have h1 := hcell j (by omega)
    rw [Addr.add_lit] at h1
    refine ⟨hw _ ?_, h1⟩
    have : j < ss.length := by omega
    simp [this]
theorem open_strs {H : Type} {enc : TypeId × Value → H} {w : World} {base : Nat} {spare : Nat → Bool} {held : Bool} {fuel : Nat} {cs : List Value} {x : DataW H × List MemPlace} (h : DataW.trod enc Try.prog w base spare held fuel 32 cs = some x) :
    ∃ a n c S, cs = [.slice a n c] ∧ Strs w a n S := by
  rcases open_strings Try.underlying32 Try.underlying9 (by kernel_rfl) h with ⟨hcs, _⟩ | ⟨x, l, c, ss, hcs, _, hl, hm, hz, _, hcell, hwz⟩
  · exact ⟨_, _, _, fun _ => ⟨#[]⟩, hcs, Strs.none _⟩
  · exact ⟨_, _, _, _, hcs, Strs.of hl hm (by rw [hz]; split <;> omega) hcell hwz⟩

/-- one of the law's calls -/
structure Lop where
  kind : Int
  id : Id
  at_ : Int
  ra : Option Addr
  rn : Nat
  rc : Nat
  wa : Option Addr
  wn : Nat
  wc : Nat
  R : Nat → ByteArray
  W : Nat → ByteArray
structure Lop.ok (w : World) (o : Lop) : Prop where
  kind : (Lit.int .i64 o.kind).wf = true
  id1 : (Lit.int .i64 o.id.1).wf = true
  id2 : (Lit.int .u64 o.id.2).wf = true
  at_ : (Lit.int .i64 o.at_).wf = true
  rd : Strs w o.ra o.rn o.R
  wr : Strs w o.wa o.wn o.W
def Lop.cells (o : Lop) : List Value := [.int .i64 o.kind, .int .i64 o.id.1, .int .u64 o.id.2, .int .i64 o.at_, .slice o.ra o.rn o.rc, .slice o.wa o.wn o.wc]
abbrev lopv (o : Lop) : Value := .agg #[.int .i64 o.kind, .int .i64 o.id.1, .int .u64 o.id.2, .int .i64 o.at_, .slice o.ra o.rn o.rc, .slice o.wa o.wn o.wc]
theorem Lop.ok.later {w wx : World} {o : Lop} (h : o.ok w) (hb : Below w.heap.size w wx) : o.ok wx := ⟨h.kind, h.id1, h.id2, h.at_, h.rd.later hb, h.wr.later hb⟩
theorem Try.cells34 : Try.prog.cellsOf 34 = 6 := by kernel_rfl
theorem Try.cells31 : Try.prog.cellsOf 31 = 2 := by kernel_rfl
theorem Try.cells3' : Try.prog.cellsOf 3 = 1 := by kernel_rfl
theorem Try.cells32' : Try.prog.cellsOf 32 = 1 := by kernel_rfl
theorem Try.cells29' : Try.prog.cellsOf 29 = 1 := by kernel_rfl
set_option maxRecDepth 100000 in
theorem open_idc {H : Type} {enc : TypeId × Value → H} {w : World} {base : Nat} {spare : Nat → Bool} {held : Bool} {fuel : Nat} {cs : List Value} {x : DataW H × List MemPlace} (h : DataW.trod enc Try.prog w base spare held fuel 31 cs = some x) :
    ∃ id : Id, cs = [.int .i64 id.1, .int .u64 id.2] ∧ (Lit.int .i64 id.1).wf = true ∧ (Lit.int .u64 id.2).wf = true := by
  obtain ⟨xs, m, _, hx0, hl, _, hf⟩ := DataW.trod_struct Try.underlying31 h
  rw [Try.cells31] at hl
  match cs, hl with
  | [c0, c1], _ =>
    have g0 := hf 0 _ rfl
    have g1 := hf 1 _ rfl
    simp [Try.cells3', Try.cells29'] at g0 g1
    have some_of : ∀ {t : TypeId} {cs : List Value} {i : Nat}, i < xs.length → DataW.trod enc Try.prog w base spare held m t cs = xs[i]? → ∃ y, DataW.trod enc Try.prog w base spare held m t cs = some y := by
      intro t cs i hi he
      rw [List.getElem?_eq_getElem hi] at he
      exact ⟨_, he⟩
    have hxl : xs.length = 2 := by first | exact hx0 | (rename_i hx _; exact hx)
    obtain ⟨y0, g0⟩ := some_of (by omega) g0
    obtain ⟨y1, g1⟩ := some_of (by omega) g1
    obtain ⟨n0, e0, _, w0⟩ := DataW.trod_int Try.underlying3 g0
    obtain ⟨n1, e1, _, w1⟩ := DataW.trod_int Try.underlying29 g1
    simp only [List.cons.injEq, and_true] at e0 e1
    subst e0 e1
    exact ⟨(n0, n1), rfl, w0, w1⟩
set_option maxRecDepth 100000 in
theorem open_lopc {H : Type} {enc : TypeId × Value → H} {w : World} {base : Nat} {spare : Nat → Bool} {held : Bool} {fuel : Nat} {cs : List Value} {x : DataW H × List MemPlace} (h : DataW.trod enc Try.prog w base spare held fuel 34 cs = some x) :
    ∃ o : Lop, o.ok w ∧ cs = o.cells := by
  obtain ⟨xs, m, _, hx0, hl, _, hf⟩ := DataW.trod_struct Try.underlying34 h
  rw [Try.cells34] at hl
  match cs, hl with
  | [c0, c1, c2, c3, c4, c5], _ =>
    have g0 := hf 0 _ rfl
    have g1 := hf 1 _ rfl
    have g2 := hf 2 _ rfl
    have g3 := hf 3 _ rfl
    have g4 := hf 4 _ rfl
    simp [Try.cells3', Try.cells31, Try.cells32'] at g0 g1 g2 g3 g4
    have some_of : ∀ {t : TypeId} {cs : List Value} {i : Nat}, i < xs.length → DataW.trod enc Try.prog w base spare held m t cs = xs[i]? → ∃ y, DataW.trod enc Try.prog w base spare held m t cs = some y := by
      intro t cs i hi he
      rw [List.getElem?_eq_getElem hi] at he
      exact ⟨_, he⟩
    have hxl : xs.length = 5 := by first | exact hx0 | (rename_i hx _; exact hx)
    obtain ⟨y0, g0⟩ := some_of (by omega) g0
    obtain ⟨y1, g1⟩ := some_of (by omega) g1
    obtain ⟨y2, g2⟩ := some_of (by omega) g2
    obtain ⟨y3, g3⟩ := some_of (by omega) g3
    obtain ⟨y4, g4⟩ := some_of (by omega) g4
    obtain ⟨n0, e0, _, w0⟩ := DataW.trod_int Try.underlying3 g0
    obtain ⟨id, e1, w1, w2⟩ := open_idc g1
    obtain ⟨n2, e2, _, w3⟩ := DataW.trod_int Try.underlying3 g2
    obtain ⟨ra, rn, rc, R, e3, w4⟩ := open_strs g3
    obtain ⟨wa, wn, wc, W, e4, w5⟩ := open_strs g4
    simp only [List.cons.injEq, and_true] at e0 e1 e2 e3 e4
    obtain ⟨rfl, rfl⟩ := e1
    subst e0 e2 e3 e4
    exact ⟨⟨n0, id, n2, ra, rn, rc, wa, wn, wc, R, W⟩, ⟨w0, w1, w2, w3, w4, w5⟩, rfl⟩
theorem open_lop {H : Type} {enc : TypeId × Value → H} {w : World} {base : Nat} {spare : Nat → Bool} {held : Bool} {r : Reach} {b0 : Nat} {v : Value} {d : DataW H} {ps : List MemPlace} (hval : Value.okWide Try.prog w r b0 34 v) (hd : DataW.Trod enc Try.prog w base spare held 34 v d ps) :
    ∃ o : Lop, v = lopv o ∧ o.ok w := by
  obtain ⟨cs, rfl, hsz⟩ := okWide_struct Try.underlying34 hval
  obtain ⟨fuel, hf⟩ := hd
  have hf : DataW.trod enc Try.prog w base spare held fuel 34 cs.toList = some (d, ps) := hf
  obtain ⟨o, h1, h2⟩ := open_lopc hf
  refine ⟨o, ?_, h1⟩
  have : cs = o.cells.toArray := by rw [← h2]
  rw [this]
  rfl
theorem open_id {H : Type} {enc : TypeId × Value → H} {w : World} {base : Nat} {spare : Nat → Bool} {held : Bool} {r : Reach} {b0 : Nat} {v : Value} {d : DataW H} {ps : List MemPlace} (hval : Value.okWide Try.prog w r b0 31 v) (hd : DataW.Trod enc Try.prog w base spare held 31 v d ps) :
    ∃ id : Id, v = idv id ∧ (Lit.int .i64 id.1).wf = true ∧ (Lit.int .u64 id.2).wf = true := by
  obtain ⟨cs, rfl, hsz⟩ := okWide_struct Try.underlying31 hval
  obtain ⟨fuel, hf⟩ := hd
  have hf : DataW.trod enc Try.prog w base spare held fuel 31 cs.toList = some (d, ps) := hf
  obtain ⟨id, h2, h1⟩ := open_idc hf
  refine ⟨id, ?_, h1⟩
  have : cs = #[.int .i64 id.1, .int .u64 id.2] := by
    have := congrArg List.toArray h2
    simpa using this
  rw [this]

/-- the law's calls, as a slice's elements lie in memory -/
def Lops (w : World) (a : Option Addr) (n : Nat) (O : Nat → Lop) : Prop :=
  n ≤ maxLen ∧ (n = 0 ∨ ∃ b off, a = some ⟨b, off, none⟩ ∧ ∀ i, i < n → (O i).ok w ∧ w.cell? ⟨b, off + i * 6, none⟩ = some (.int .i64 (O i).kind) ∧ w.cell? ⟨b, off + i * 6 + 1, none⟩ = some (.int .i64 (O i).id.1) ∧ w.cell? ⟨b, off + i * 6 + 2, none⟩ = some (.int .u64 (O i).id.2) ∧ w.cell? ⟨b, off + i * 6 + 3, none⟩ = some (.int .i64 (O i).at_) ∧ w.cell? ⟨b, off + i * 6 + 4, none⟩ = some (.slice (O i).ra (O i).rn (O i).rc) ∧ w.cell? ⟨b, off + i * 6 + 5, none⟩ = some (.slice (O i).wa (O i).wn (O i).wc))
theorem Lops.at {w : World} {a : Option Addr} {n : Nat} {O : Nat → Lop} (h : Lops w a n O) (hn : 0 < n) : ∃ b off, a = some ⟨b, off, none⟩ ∧ ∀ i, i < n → (O i).ok w ∧ w.cell? ⟨b, off + i * 6, none⟩ = some (.int .i64 (O i).kind) ∧ w.cell? ⟨b, off + i * 6 + 1, none⟩ = some (.int .i64 (O i).id.1) ∧ w.cell? ⟨b, off + i * 6 + 2, none⟩ = some (.int .u64 (O i).id.2) ∧ w.cell? ⟨b, off + i * 6 + 3, none⟩ = some (.int .i64 (O i).at_) ∧ w.cell? ⟨b, off + i * 6 + 4, none⟩ = some (.slice (O i).ra (O i).rn (O i).rc) ∧ w.cell? ⟨b, off + i * 6 + 5, none⟩ = some (.slice (O i).wa (O i).wn (O i).wc) := by
  rcases h.2 with h | h
  · omega
  · exact h
theorem Lops.later {w wx : World} {a : Option Addr} {n : Nat} {O : Nat → Lop} (h : Lops w a n O) (hb : Below w.heap.size w wx) : Lops wx a n O := by
  refine ⟨h.1, ?_⟩
  rcases h.2 with h | ⟨b, off, e, hc⟩
  · exact .inl h
  · refine .inr ⟨b, off, e, fun i hi => ?_⟩
    obtain ⟨h0, c0, c1, c2, c3, c4, c5⟩ := hc i hi
    exact ⟨h0.later hb, cell_later hb c0, cell_later hb c1, cell_later hb c2, cell_later hb c3, cell_later hb c4, cell_later hb c5⟩
theorem Try.underlying22' : Try.prog.underlying 22 = some (.slice 34) := by kernel_rfl
set_option maxRecDepth 100000 in
theorem open_lops {H : Type} {enc : TypeId × Value → H} {w : World} {base : Nat} {spare : Nat → Bool} {held : Bool} {a : Option Addr} {len cap : Nat} {d : DataW H} {ps : List MemPlace} (h : DataW.Trod enc Try.prog w base spare held 22 (.slice a len cap) d ps) :
    ∃ O, Lops w a len O := by
  obtain ⟨fuel, hf⟩ := h
  rcases Go.Deep.open_slice Try.underlying22' hf with ⟨hcs, _⟩ | ⟨x, l, c, m, q, D, Pl, hcs, _, hl, hm, hmm, _, hx⟩
  · simp [Value.cells] at hcs
    obtain ⟨rfl, rfl, rfl⟩ := hcs
    exact ⟨fun _ => ⟨0, (0, 0), 0, none, 0, 0, none, 0, 0, fun _ => ⟨#[]⟩, fun _ => ⟨#[]⟩⟩, Nat.zero_le _, .inl rfl⟩
  · simp [Value.cells] at hcs
    obtain ⟨rfl, rfl, rfl⟩ := hcs
    have hlm : len ≤ m := by rw [hmm]; split <;> omega
    haveI : Inhabited Lop := ⟨⟨0, (0, 0), 0, none, 0, 0, none, 0, 0, fun _ => ⟨#[]⟩, fun _ => ⟨#[]⟩⟩⟩
    obtain ⟨O, hO⟩ := Go.Deep.choose_lt (α := Lop) (p := fun i v => v.ok w ∧ ∃ b off, some x = some (⟨b, off, none⟩ : Addr) ∧
      w.cell? ⟨b, off + i * 6, none⟩ = some (.int .i64 v.kind) ∧ w.cell? ⟨b, off + i * 6 + 1, none⟩ = some (.int .i64 v.id.1) ∧ w.cell? ⟨b, off + i * 6 + 2, none⟩ = some (.int .u64 v.id.2) ∧ w.cell? ⟨b, off + i * 6 + 3, none⟩ = some (.int .i64 v.at_) ∧ w.cell? ⟨b, off + i * 6 + 4, none⟩ = some (.slice v.ra v.rn v.rc) ∧ w.cell? ⟨b, off + i * 6 + 5, none⟩ = some (.slice v.wa v.wn v.wc)) (n := len) (fun i hi => by
      obtain ⟨cs', h1, h2⟩ := hx i (by omega)
      obtain ⟨v, hv, rfl⟩ := open_lopc h2
      rw [Try.cells34] at h1
      obtain ⟨_, _, hcell⟩ := World.cells?_some h1
      obtain ⟨b, off, spot⟩ := x
      have hspot : spot = none := by
        obtain ⟨cs0, g1, g2⟩ := hx 0 (by omega)
        obtain ⟨o0, _, rfl⟩ := open_lopc g2
        rw [Try.cells34] at g1
        have := (World.cells?_some g1).2.2 0 (by omega)
        simpa [Addr.add] using World.cell?_spot this
      subst hspot
      refine ⟨v, hv, b, off, rfl, ?_⟩
      have c0 := hcell 0 (by omega)
      have c1 := hcell 1 (by omega)
      have c2 := hcell 2 (by omega)
      have c3 := hcell 3 (by omega)
      have c4 := hcell 4 (by omega)
      have c5 := hcell 5 (by omega)
      rw [Addr.add_lit, Addr.add_lit] at c0 c1 c2 c3 c4 c5
      exact ⟨c0, c1, c2, c3, c4, c5⟩)
    refine ⟨O, by omega, ?_⟩
    rcases Nat.eq_zero_or_pos len with rfl | hpos
    · exact .inl rfl
    · obtain ⟨_, b, off, e0, _⟩ := hO 0 hpos
      refine .inr ⟨b, off, e0, fun i hi => ?_⟩
      obtain ⟨hok, b', off', e1, hc⟩ := hO i hi
      rw [e0] at e1
      simp only [Option.some.injEq, Addr.mk.injEq] at e1
      obtain ⟨rfl, rfl, _⟩ := e1
      exact ⟨hok, hc⟩
end Go.Proofs.Ytbhohedkgeokgaa
