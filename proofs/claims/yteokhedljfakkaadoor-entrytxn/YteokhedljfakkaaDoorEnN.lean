/- The law's argument that came in: an entry of the document's. -/
import Derived.Test.YteokhedljfakkaaDoorEnM
import Derived.OpenShut
import Derived.ShutString
import Derived.Deep.Slices
namespace Go.Proofs.YteokhedljfakkaaDoor
open Go.RowKit Go.ChangeShapes Go.WideShapes
set_option linter.unusedVariables false
set_option linter.unusedSimpArgs false

theorem Tryd.cells24' : Tryd.prog.cellsOf 24 = 2 := by kernel_rfl
theorem Tryd.cells66' : Tryd.prog.cellsOf 66 = 2 := by kernel_rfl
theorem Tryd.cells69' : Tryd.prog.cellsOf 69 = 3 := by kernel_rfl
theorem Tryd.cells28' : Tryd.prog.cellsOf 28 = 5 := by kernel_rfl
theorem Tryd.cells31' : Tryd.prog.cellsOf 31 = 10 := by kernel_rfl
theorem Tryd.cells3' : Tryd.prog.cellsOf 3 = 1 := by kernel_rfl
theorem Tryd.cells22' : Tryd.prog.cellsOf 22 = 1 := by kernel_rfl
theorem Tryd.cells9' : Tryd.prog.cellsOf 9 = 1 := by kernel_rfl
theorem Tryd.cells4' : Tryd.prog.cellsOf 4 = 1 := by kernel_rfl
theorem Tryd.cells25' : Tryd.prog.cellsOf 25 = 1 := by kernel_rfl
theorem Tryd.cells26' : Tryd.prog.cellsOf 26 = 1 := by kernel_rfl
theorem Tryd.cells29' : Tryd.prog.cellsOf 29 = 1 := by kernel_rfl
theorem Tryd.underlying25' : Tryd.prog.underlying 25 = some (.slice 66) := by kernel_rfl
theorem Tryd.underlying26' : Tryd.prog.underlying 26 = some (.slice 69) := by kernel_rfl
set_option maxRecDepth 100000 in
theorem open_idc {H : Type} {enc : TypeId × Value → H} {w : World} {base : Nat} {spare : Nat → Bool} {held : Bool} {fuel : Nat} {cs : List Value} {x : DataW H × List MemPlace} (h : DataW.trod enc Tryd.prog w base spare held fuel 24 cs = some x) :
    ∃ id : Id, cs = [.int .i64 id.1, .int .u64 id.2] ∧ (Lit.int .i64 id.1).wf = true ∧ (Lit.int .u64 id.2).wf = true := by
  obtain ⟨xs, m, _, hx0, hl, _, hf⟩ := DataW.trod_struct Tryd.underlying24 h
  rw [Tryd.cells24'] at hl
  match cs, hl with
  | [c0, c1], _ =>
    have g0 := hf 0 _ rfl
    have g1 := hf 1 _ rfl
    simp [Tryd.cells22', Tryd.cells3'] at g0 g1
    have some_of : ∀ {t : TypeId} {cs : List Value} {i : Nat}, i < xs.length → DataW.trod enc Tryd.prog w base spare held m t cs = xs[i]? → ∃ y, DataW.trod enc Tryd.prog w base spare held m t cs = some y := by
      intro t cs i hi he
      rw [List.getElem?_eq_getElem hi] at he
      exact ⟨_, he⟩
    have hxl : xs.length = 2 := by first | exact hx0 | (rename_i hx _; exact hx)
    obtain ⟨y0, g0⟩ := some_of (by omega) g0
    obtain ⟨y1, g1⟩ := some_of (by omega) g1
    obtain ⟨n0, e0, _, w0⟩ := DataW.trod_int Tryd.underlying3 g0
    obtain ⟨n1, e1, _, w1⟩ := DataW.trod_int Tryd.underlying22 g1
    simp only [List.cons.injEq, and_true] at e0 e1
    subst e0 e1
    exact ⟨(n0, n1), rfl, w0, w1⟩
set_option maxRecDepth 100000 in
theorem open_rdc {H : Type} {enc : TypeId × Value → H} {w : World} {base : Nat} {spare : Nat → Bool} {held : Bool} {fuel : Nat} {cs : List Value} {x : DataW H × List MemPlace} (h : DataW.trod enc Tryd.prog w base spare held fuel 66 cs = some x) :
    ∃ r : Rdv, r.key.size ≤ maxLen ∧ cs = r.cells := by
  obtain ⟨xs, m, _, hx0, hl, _, hf⟩ := DataW.trod_struct Tryd.underlying66 h
  rw [Tryd.cells66'] at hl
  match cs, hl with
  | [c0, c1], _ =>
    have g0 := hf 0 _ rfl
    have g1 := hf 1 _ rfl
    simp [Tryd.cells22', Tryd.cells9'] at g0 g1
    have some_of : ∀ {t : TypeId} {cs : List Value} {i : Nat}, i < xs.length → DataW.trod enc Tryd.prog w base spare held m t cs = xs[i]? → ∃ y, DataW.trod enc Tryd.prog w base spare held m t cs = some y := by
      intro t cs i hi he
      rw [List.getElem?_eq_getElem hi] at he
      exact ⟨_, he⟩
    have hxl : xs.length = 2 := by first | exact hx0 | (rename_i hx _; exact hx)
    obtain ⟨y0, g0⟩ := some_of (by omega) g0
    obtain ⟨y1, g1⟩ := some_of (by omega) g1
    obtain ⟨s0, e0, _, w0⟩ := DataW.trod_string Tryd.underlying9 g0
    obtain ⟨n1, e1, _, w1⟩ := DataW.trod_int Tryd.underlying22 g1
    simp only [List.cons.injEq, and_true] at e0 e1
    subst e0 e1
    exact ⟨⟨s0, n1⟩, w0, rfl⟩
set_option maxRecDepth 100000 in
theorem open_wrc {H : Type} {enc : TypeId × Value → H} {w : World} {base : Nat} {spare : Nat → Bool} {held : Bool} {fuel : Nat} {cs : List Value} {x : DataW H × List MemPlace} (h : DataW.trod enc Tryd.prog w base spare held fuel 69 cs = some x) :
    ∃ r : Wrv, r.key.size ≤ maxLen ∧ r.val.size ≤ maxLen ∧ cs = r.cells := by
  obtain ⟨xs, m, _, hx0, hl, _, hf⟩ := DataW.trod_struct Tryd.underlying69 h
  rw [Tryd.cells69'] at hl
  match cs, hl with
  | [c0, c1, c2], _ =>
    have g0 := hf 0 _ rfl
    have g1 := hf 1 _ rfl
    have g2 := hf 2 _ rfl
    simp [Tryd.cells4', Tryd.cells9'] at g0 g1 g2
    have some_of : ∀ {t : TypeId} {cs : List Value} {i : Nat}, i < xs.length → DataW.trod enc Tryd.prog w base spare held m t cs = xs[i]? → ∃ y, DataW.trod enc Tryd.prog w base spare held m t cs = some y := by
      intro t cs i hi he
      rw [List.getElem?_eq_getElem hi] at he
      exact ⟨_, he⟩
    have hxl : xs.length = 3 := by first | exact hx0 | (rename_i hx _; exact hx)
    obtain ⟨y0, g0⟩ := some_of (by omega) g0
    obtain ⟨y1, g1⟩ := some_of (by omega) g1
    obtain ⟨y2, g2⟩ := some_of (by omega) g2
    obtain ⟨s0, e0, _, w0⟩ := DataW.trod_string Tryd.underlying9 g0
    obtain ⟨s1, e1, _, w1⟩ := DataW.trod_string Tryd.underlying9 g1
    obtain ⟨b2, e2, _⟩ := DataW.trod_bool Tryd.underlying4 g2
    simp only [List.cons.injEq, and_true] at e0 e1 e2
    subst e0 e1 e2
    exact ⟨⟨s0, s1, b2⟩, w0, w1, rfl⟩
set_option maxRecDepth 100000 in
theorem open_rds {H : Type} {enc : TypeId × Value → H} {w : World} {base : Nat} {spare : Nat → Bool} {held : Bool} {fuel : Nat} {cs : List Value} {x : DataW H × List MemPlace} (h : DataW.trod enc Tryd.prog w base spare held fuel 25 cs = some x) :
    ∃ a n c S, cs = [.slice a n c] ∧ Rds w a n S ∧ ∀ i, i < n → (S i).key.size ≤ maxLen := by
  rcases Go.Deep.open_slice Tryd.underlying25' h with ⟨hcs, _⟩ | ⟨x, l, c, m, q, Dd, Pl, hcs, _, hl, hm, hmm, _, hx⟩
  · exact ⟨none, 0, 0, fun _ => ⟨⟨#[]⟩, 0⟩, hcs, ⟨Nat.zero_le _, .inl rfl⟩, fun i hi => by omega⟩
  · have hlm : l ≤ m := by rw [hmm]; split <;> omega
    haveI : Inhabited Rdv := ⟨⟨⟨#[]⟩, 0⟩⟩
    obtain ⟨O, hO⟩ := Go.Deep.choose_lt (α := Rdv) (p := fun i v => (v.key.size ≤ maxLen) ∧ ∃ b off, some x = some (⟨b, off, none⟩ : Addr) ∧ w.cell? ⟨b, off + i * 2, none⟩ = some (.string v.key) ∧ w.cell? ⟨b, off + i * 2 + 1, none⟩ = some (.int .u64 v.num)) (n := l) (fun i hi => by
      obtain ⟨cs', h1, h2⟩ := hx i (by omega)
      obtain ⟨v, hv⟩ := open_rdc h2
      obtain ⟨hok, rfl⟩ := hv
      rw [Tryd.cells66'] at h1
      obtain ⟨_, _, hcell⟩ := World.cells?_some h1
      obtain ⟨b, off, spot⟩ := x
      have hspot : spot = none := by
        obtain ⟨cs0, g1, g2⟩ := hx 0 (by omega)
        obtain ⟨o0, ho0⟩ := open_rdc g2
        obtain rfl := ho0.2
        rw [Tryd.cells66'] at g1
        have := (World.cells?_some g1).2.2 0 (by omega)
        simpa [Addr.add] using World.cell?_spot this
      subst hspot
      have c0 := hcell 0 (by omega)
      have c1 := hcell 1 (by omega)
      rw [Addr.add_lit, Addr.add_lit] at c0 c1
      exact ⟨v, hok, b, off, rfl, c0, c1⟩)
    refine ⟨some x, l, c, O, hcs, ⟨by omega, ?_⟩, fun i hi => (hO i hi).1⟩
    rcases Nat.eq_zero_or_pos l with h0 | hpos
    · exact .inl h0
    · obtain ⟨_, b, off, e0, _⟩ := hO 0 hpos
      refine .inr ⟨b, off, e0, fun i hi => ?_⟩
      obtain ⟨_, b', off', e1, hc⟩ := hO i hi
      rw [e0] at e1
      simp only [Option.some.injEq, Addr.mk.injEq] at e1
      obtain ⟨rfl, rfl, _⟩ := e1
      exact hc
set_option maxRecDepth 100000 in
theorem open_wrs {H : Type} {enc : TypeId × Value → H} {w : World} {base : Nat} {spare : Nat → Bool} {held : Bool} {fuel : Nat} {cs : List Value} {x : DataW H × List MemPlace} (h : DataW.trod enc Tryd.prog w base spare held fuel 26 cs = some x) :
    ∃ a n c S, cs = [.slice a n c] ∧ Wrs w a n S ∧ ∀ i, i < n → (S i).key.size ≤ maxLen ∧ (S i).val.size ≤ maxLen := by
  rcases Go.Deep.open_slice Tryd.underlying26' h with ⟨hcs, _⟩ | ⟨x, l, c, m, q, Dd, Pl, hcs, _, hl, hm, hmm, _, hx⟩
  · exact ⟨none, 0, 0, fun _ => ⟨⟨#[]⟩, ⟨#[]⟩, false⟩, hcs, ⟨Nat.zero_le _, .inl rfl⟩, fun i hi => by omega⟩
  · have hlm : l ≤ m := by rw [hmm]; split <;> omega
    haveI : Inhabited Wrv := ⟨⟨⟨#[]⟩, ⟨#[]⟩, false⟩⟩
    obtain ⟨O, hO⟩ := Go.Deep.choose_lt (α := Wrv) (p := fun i v => (v.key.size ≤ maxLen ∧ v.val.size ≤ maxLen) ∧ ∃ b off, some x = some (⟨b, off, none⟩ : Addr) ∧ w.cell? ⟨b, off + i * 3, none⟩ = some (.string v.key) ∧ w.cell? ⟨b, off + i * 3 + 1, none⟩ = some (.string v.val) ∧ w.cell? ⟨b, off + i * 3 + 2, none⟩ = some (.bool v.gone)) (n := l) (fun i hi => by
      obtain ⟨cs', h1, h2⟩ := hx i (by omega)
      obtain ⟨v, hv⟩ := open_wrc h2
      obtain ⟨hok1, hok2, rfl⟩ := hv
      rw [Tryd.cells69'] at h1
      obtain ⟨_, _, hcell⟩ := World.cells?_some h1
      obtain ⟨b, off, spot⟩ := x
      have hspot : spot = none := by
        obtain ⟨cs0, g1, g2⟩ := hx 0 (by omega)
        obtain ⟨o0, ho0⟩ := open_wrc g2
        obtain rfl := ho0.2.2
        rw [Tryd.cells69'] at g1
        have := (World.cells?_some g1).2.2 0 (by omega)
        simpa [Addr.add] using World.cell?_spot this
      subst hspot
      have c0 := hcell 0 (by omega)
      have c1 := hcell 1 (by omega)
      have c2 := hcell 2 (by omega)
      rw [Addr.add_lit, Addr.add_lit] at c0 c1 c2
      exact ⟨v, ⟨hok1, hok2⟩, b, off, rfl, c0, c1, c2⟩)
    refine ⟨some x, l, c, O, hcs, ⟨by omega, ?_⟩, fun i hi => (hO i hi).1⟩
    rcases Nat.eq_zero_or_pos l with h0 | hpos
    · exact .inl h0
    · obtain ⟨_, b, off, e0, _⟩ := hO 0 hpos
      refine .inr ⟨b, off, e0, fun i hi => ?_⟩
      obtain ⟨_, b', off', e1, hc⟩ := hO i hi
      rw [e0] at e1
      simp only [Option.some.injEq, Addr.mk.injEq] at e1
      obtain ⟨rfl, rfl, _⟩ := e1
      exact hc
/-- a transaction that came in -/
structure Txi where
  id : Id
  plain : Bool
  ra : Option Addr
  rn : Nat
  rc : Nat
  wa : Option Addr
  wn : Nat
  wc : Nat
  R : Nat → Rdv
  W : Nat → Wrv
structure Txi.ok (w : World) (t : Txi) : Prop where
  i1 : (Lit.int .i64 t.id.1).wf = true
  i2 : (Lit.int .u64 t.id.2).wf = true
  r : Rds w t.ra t.rn t.R
  w : Wrs w t.wa t.wn t.W
  kr : ∀ i, i < t.rn → (t.R i).key.size ≤ maxLen
  kw : ∀ i, i < t.wn → (t.W i).key.size ≤ maxLen ∧ (t.W i).val.size ≤ maxLen
def Txi.cells (t : Txi) : List Value := [.int .i64 t.id.1, .int .u64 t.id.2, .bool t.plain, .slice t.ra t.rn t.rc, .slice t.wa t.wn t.wc]
set_option maxRecDepth 100000 in
theorem open_txnc {H : Type} {enc : TypeId × Value → H} {w : World} {base : Nat} {spare : Nat → Bool} {held : Bool} {fuel : Nat} {cs : List Value} {x : DataW H × List MemPlace} (h : DataW.trod enc Tryd.prog w base spare held fuel 28 cs = some x) :
    ∃ t : Txi, t.ok w ∧ cs = t.cells := by
  obtain ⟨xs, m, _, hx0, hl, _, hf⟩ := DataW.trod_struct Tryd.underlying28 h
  rw [Tryd.cells28'] at hl
  match cs, hl with
  | [c0, c1, c2, c3, c4], _ =>
    have g0 := hf 0 _ rfl
    have g1 := hf 1 _ rfl
    have g2 := hf 2 _ rfl
    have g3 := hf 3 _ rfl
    simp [Tryd.cells24', Tryd.cells25', Tryd.cells26', Tryd.cells4'] at g0 g1 g2 g3
    have some_of : ∀ {t : TypeId} {cs : List Value} {i : Nat}, i < xs.length → DataW.trod enc Tryd.prog w base spare held m t cs = xs[i]? → ∃ y, DataW.trod enc Tryd.prog w base spare held m t cs = some y := by
      intro t cs i hi he
      rw [List.getElem?_eq_getElem hi] at he
      exact ⟨_, he⟩
    have hxl : xs.length = 4 := by first | exact hx0 | (rename_i hx _; exact hx)
    obtain ⟨y0, g0⟩ := some_of (by omega) g0
    obtain ⟨y1, g1⟩ := some_of (by omega) g1
    obtain ⟨y2, g2⟩ := some_of (by omega) g2
    obtain ⟨y3, g3⟩ := some_of (by omega) g3
    obtain ⟨id, e0, w0, w1⟩ := open_idc g0
    obtain ⟨b1, e1, _⟩ := DataW.trod_bool Tryd.underlying4 g1
    obtain ⟨ra, rn, rc, R, e2, w2, w3⟩ := open_rds g2
    obtain ⟨wa, wn, wc, W, e3, w4, w5⟩ := open_wrs g3
    simp only [List.cons.injEq, and_true] at e0 e1 e2 e3
    obtain ⟨rfl, rfl⟩ := e0
    subst e1 e2 e3
    exact ⟨⟨id, b1, ra, rn, rc, wa, wn, wc, R, W⟩, ⟨w0, w1, w2, w4, w3, w5⟩, rfl⟩
/-- an entry that came in -/
structure Eni where
  ep : Int
  kd : Int
  t : Txi
  id : Id
  code : Int
structure Eni.ok (w : World) (e : Eni) : Prop where
  ep : (Lit.int .u64 e.ep).wf = true
  kd : (Lit.int .i64 e.kd).wf = true
  t : e.t.ok w
  i1 : (Lit.int .i64 e.id.1).wf = true
  i2 : (Lit.int .u64 e.id.2).wf = true
  code : (Lit.int .i64 e.code).wf = true
def Eni.cells (e : Eni) : List Value := [.int .u64 e.ep, .int .i64 e.kd] ++ e.t.cells ++ [.int .i64 e.id.1, .int .u64 e.id.2, .int .i64 e.code]
abbrev eniv (e : Eni) : Value := .agg #[.int .u64 e.ep, .int .i64 e.kd, .int .i64 e.t.id.1, .int .u64 e.t.id.2, .bool e.t.plain, .slice e.t.ra e.t.rn e.t.rc, .slice e.t.wa e.t.wn e.t.wc, .int .i64 e.id.1, .int .u64 e.id.2, .int .i64 e.code]
set_option maxRecDepth 100000 in
theorem open_enic {H : Type} {enc : TypeId × Value → H} {w : World} {base : Nat} {spare : Nat → Bool} {held : Bool} {fuel : Nat} {cs : List Value} {x : DataW H × List MemPlace} (h : DataW.trod enc Tryd.prog w base spare held fuel 31 cs = some x) :
    ∃ e : Eni, e.ok w ∧ cs = e.cells := by
  obtain ⟨xs, m, _, hx0, hl, _, hf⟩ := DataW.trod_struct Tryd.underlying31 h
  rw [Tryd.cells31'] at hl
  match cs, hl with
  | [c0, c1, c2, c3, c4, c5, c6, c7, c8, c9], _ =>
    have g0 := hf 0 _ rfl
    have g1 := hf 1 _ rfl
    have g2 := hf 2 _ rfl
    have g3 := hf 3 _ rfl
    have g4 := hf 4 _ rfl
    simp [Tryd.cells22', Tryd.cells24', Tryd.cells28', Tryd.cells29', Tryd.cells3'] at g0 g1 g2 g3 g4
    have some_of : ∀ {t : TypeId} {cs : List Value} {i : Nat}, i < xs.length → DataW.trod enc Tryd.prog w base spare held m t cs = xs[i]? → ∃ y, DataW.trod enc Tryd.prog w base spare held m t cs = some y := by
      intro t cs i hi he
      rw [List.getElem?_eq_getElem hi] at he
      exact ⟨_, he⟩
    have hxl : xs.length = 5 := by first | exact hx0 | (rename_i hx _; exact hx)
    obtain ⟨y0, g0⟩ := some_of (by omega) g0
    obtain ⟨y1, g1⟩ := some_of (by omega) g1
    obtain ⟨y2, g2⟩ := some_of (by omega) g2
    obtain ⟨y3, g3⟩ := some_of (by omega) g3
    obtain ⟨y4, g4⟩ := some_of (by omega) g4
    obtain ⟨n0, e0, _, w0⟩ := DataW.trod_int Tryd.underlying22 g0
    obtain ⟨n1, e1, _, w1⟩ := DataW.trod_int Tryd.underlying3 g1
    obtain ⟨t, w2, e2⟩ := open_txnc g2
    obtain ⟨id, e3, w3, w4⟩ := open_idc g3
    obtain ⟨n4, e4, _, w5⟩ := DataW.trod_int Tryd.underlying29 g4
    simp only [List.cons.injEq, and_true] at e0 e1 e3 e4
    obtain ⟨rfl, rfl⟩ := e3
    subst e0 e1 e4
    simp only [Txi.cells, List.cons.injEq, and_true] at e2
    obtain ⟨rfl, rfl, rfl, rfl, rfl⟩ := e2
    exact ⟨⟨n0, n1, t, id, n4⟩, ⟨w0, w1, w2, w3, w4, w5⟩, rfl⟩
set_option maxRecDepth 100000 in
theorem open_eni {H : Type} {enc : TypeId × Value → H} {w : World} {base : Nat} {spare : Nat → Bool} {held : Bool} {r : Reach} {b0 : Nat} {v : Value} {d : DataW H} {ps : List MemPlace} (hval : Value.okWide Tryd.prog w r b0 31 v) (hd : DataW.Trod enc Tryd.prog w base spare held 31 v d ps) :
    ∃ e : Eni, v = eniv e ∧ e.ok w := by
  obtain ⟨cs, rfl, hsz⟩ := okWide_struct Tryd.underlying31 hval
  obtain ⟨fuel, hf⟩ := hd
  have hf : DataW.trod enc Tryd.prog w base spare held fuel 31 cs.toList = some (d, ps) := hf
  obtain ⟨e, h1, h2⟩ := open_enic hf
  refine ⟨e, ?_, h1⟩
  have : cs = e.cells.toArray := by rw [← h2]
  rw [this]
  rfl
end Go.Proofs.YteokhedljfakkaaDoor
