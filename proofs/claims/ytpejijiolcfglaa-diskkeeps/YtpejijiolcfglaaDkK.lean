/- The law's calls as they lie in memory: a slice of its struct Op, an array of two. -/
import Derived.Test.YtpejijiolcfglaaDkJ
import Derived.Deep.Slices
import Derived.OpenShut
import Derived.WideKeyPair
namespace Go.Proofs.Ytpejijiolcfglaa
open Go.RowKit Go.ChangeShapes Go.WideShapes

/-- one of the law's calls -/
structure Opv where
  kind : Int
  area : Int
  b : ByteArray
  n : Int
  k0 : Int
  k1 : Int

structure Opv.ok (o : Opv) : Prop where
  kind : (Lit.int .i64 o.kind).wf = true
  area : (Lit.int .i64 o.area).wf = true
  b : o.b.size ≤ maxLen
  n : (Lit.int .i64 o.n).wf = true
  k0 : (Lit.int .u16 o.k0).wf = true
  k1 : (Lit.int .u16 o.k1).wf = true

/-- the law's calls, as a slice's elements lie in memory -/
def Ops (w : World) (a : Option Addr) (len : Nat) (O : Nat → Opv) : Prop :=
  len ≤ maxLen ∧ ∀ i, i < len → (O i).ok ∧ ∃ b off, a = some ⟨b, off, none⟩ ∧
    w.cell? ⟨b, off + i * 6, none⟩ = some (.int .i64 (O i).kind) ∧ w.cell? ⟨b, off + (i * 6 + 1), none⟩ = some (.int .i64 (O i).area) ∧ w.cell? ⟨b, off + (i * 6 + 2), none⟩ = some (.string (O i).b) ∧
    w.cell? ⟨b, off + (i * 6 + 3), none⟩ = some (.int .i64 (O i).n) ∧ w.cell? ⟨b, off + (i * 6 + 4), none⟩ = some (.int .u16 (O i).k0) ∧ w.cell? ⟨b, off + (i * 6 + 5), none⟩ = some (.int .u16 (O i).k1)

theorem Ops.later {w wx : World} {a : Option Addr} {len : Nat} {O : Nat → Opv} (h : Ops w a len O) (hb : Below w.heap.size w wx) : Ops wx a len O :=
  ⟨h.1, fun i hi => by
    obtain ⟨h1, b, off, h2, c0, c1, c2, c3, c4, c5⟩ := h.2 i hi
    exact ⟨h1, b, off, h2, cell_later hb c0, cell_later hb c1, cell_later hb c2, cell_later hb c3, cell_later hb c4, cell_later hb c5⟩⟩

theorem Try.cells30 : Try.prog.cellsOf 30 = 6 := by kernel_rfl
theorem Try.cells28 : Try.prog.cellsOf 28 = 2 := by kernel_rfl
theorem Try.cells27 : Try.prog.cellsOf 27 = 1 := by kernel_rfl
theorem Try.cells3 : Try.prog.cellsOf 3 = 1 := by kernel_rfl
theorem Try.cells9 : Try.prog.cellsOf 9 = 1 := by kernel_rfl

theorem open_op {H : Type} {enc : TypeId × Value → H} {w : World} {base : Nat} {spare : Nat → Bool} {held : Bool} {fuel : Nat} {cs : List Value} {x : DataW H × List MemPlace} (h : DataW.trod enc Try.prog w base spare held fuel 30 cs = some x) :
    ∃ o : Opv, o.ok ∧ cs = [.int .i64 o.kind, .int .i64 o.area, .string o.b, .int .i64 o.n, .int .u16 o.k0, .int .u16 o.k1] := by
  obtain ⟨xs, m, _, _, hl, _, hf⟩ := DataW.trod_struct Try.underlying30 h
  rw [Try.cells30] at hl
  match cs, hl with
  | [c0, c1, c2, c3, c4, c5], _ =>
    have g0 := hf 0 _ rfl
    have g1 := hf 1 _ rfl
    have g2 := hf 2 _ rfl
    have g3 := hf 3 _ rfl
    have g4 := hf 4 _ rfl
    simp [Try.cells3, Try.cells9, Try.cells28] at g0 g1 g2 g3 g4
    have some_of : ∀ {t : TypeId} {cs : List Value} {i : Nat}, i < xs.length → DataW.trod enc Try.prog w base spare held m t cs = xs[i]? → ∃ y, DataW.trod enc Try.prog w base spare held m t cs = some y := by
      intro t cs i hi he
      rw [List.getElem?_eq_getElem hi] at he
      exact ⟨_, he⟩
    have hxl : xs.length = 5 := by rename_i hx _; exact hx
    obtain ⟨y0, g0⟩ := some_of (by omega) g0
    obtain ⟨y1, g1⟩ := some_of (by omega) g1
    obtain ⟨y2, g2⟩ := some_of (by omega) g2
    obtain ⟨y3, g3⟩ := some_of (by omega) g3
    obtain ⟨y4, g4⟩ := some_of (by omega) g4
    obtain ⟨n0, e0, _, w0⟩ := DataW.trod_int Try.underlying3 g0
    obtain ⟨n1, e1, _, w1⟩ := DataW.trod_int Try.underlying3 g1
    obtain ⟨n2, e2, _, w2⟩ := DataW.trod_string Try.underlying9 g2
    obtain ⟨n3, e3, _, w3⟩ := DataW.trod_int Try.underlying3 g3
    obtain ⟨zs, q, _, _, _, hzl, hz⟩ := DataW.trod_array Try.underlying28 g4
    have z0 := hz 0 (by omega)
    have z1 := hz 1 (by omega)
    simp [Try.cells27] at z0 z1
    rw [List.getElem?_eq_getElem (by omega)] at z0 z1
    obtain ⟨n4, e4, _, w4⟩ := DataW.trod_int Try.underlying27 z0
    obtain ⟨n5, e5, _, w5⟩ := DataW.trod_int Try.underlying27 z1
    simp only [List.cons.injEq, and_true] at e0 e1 e2 e3 e4 e5
    subst e0 e1 e2 e3 e4 e5
    exact ⟨⟨n0, n1, n2, n3, n4, n5⟩, ⟨w0, w1, w2, w3, w4, w5⟩, rfl⟩

theorem add_none (b off k : Nat) : (⟨b, off, none⟩ : Addr).add k = ⟨b, off + k, none⟩ := by
  unfold Addr.add
  by_cases h : k = 0
  · subst h; simp
  · simp [h]

theorem open_ops {H : Type} {enc : TypeId × Value → H} {w : World} {base : Nat} {spare : Nat → Bool} {held : Bool} {a : Option Addr} {len cap : Nat} {d : DataW H} {ps : List MemPlace} (h : DataW.Trod enc Try.prog w base spare held 22 (.slice a len cap) d ps) :
    ∃ O, Ops w a len O := by
  obtain ⟨fuel, hf⟩ := h
  rcases Go.Deep.open_slice Try.underlying22 hf with ⟨hcs, _⟩ | ⟨x, l, c, m, q, D, Pl, hcs, _, hl, hm, hmm, _, hx⟩
  · simp [Value.cells] at hcs
    obtain ⟨rfl, rfl, rfl⟩ := hcs
    exact ⟨fun _ => ⟨0, 0, ByteArray.empty, 0, 0, 0⟩, by simp, fun i hi => by omega⟩
  · simp [Value.cells] at hcs
    obtain ⟨rfl, rfl, rfl⟩ := hcs
    have hlm : len ≤ m := by rw [hmm]; split <;> omega
    haveI : Inhabited Opv := ⟨⟨0, 0, ByteArray.empty, 0, 0, 0⟩⟩
    obtain ⟨O, hO⟩ := Go.Deep.choose_lt (α := Opv) (p := fun i o => o.ok ∧ ∃ b off, some x = some (⟨b, off, none⟩ : Addr) ∧
      w.cell? ⟨b, off + i * 6, none⟩ = some (.int .i64 o.kind) ∧ w.cell? ⟨b, off + (i * 6 + 1), none⟩ = some (.int .i64 o.area) ∧ w.cell? ⟨b, off + (i * 6 + 2), none⟩ = some (.string o.b) ∧
      w.cell? ⟨b, off + (i * 6 + 3), none⟩ = some (.int .i64 o.n) ∧ w.cell? ⟨b, off + (i * 6 + 4), none⟩ = some (.int .u16 o.k0) ∧ w.cell? ⟨b, off + (i * 6 + 5), none⟩ = some (.int .u16 o.k1)) (n := len) (fun i hi => by
      obtain ⟨cs', h1, h2⟩ := hx i (by omega)
      obtain ⟨o, ho, rfl⟩ := open_op h2
      rw [Try.cells30] at h1
      obtain ⟨_, _, hcell⟩ := World.cells?_some h1
      obtain ⟨b, off, spot⟩ := x
      have hspot : spot = none := by
        obtain ⟨cs0, g1, g2⟩ := hx 0 (by omega)
        obtain ⟨o0, _, rfl⟩ := open_op g2
        rw [Try.cells30] at g1
        have := (World.cells?_some g1).2.2 0 (by omega)
        simpa [Addr.add] using World.cell?_spot this
      subst hspot
      refine ⟨o, ho, b, off, rfl, ?_⟩
      have c0 := hcell 0 (by omega)
      have c1 := hcell 1 (by omega)
      have c2 := hcell 2 (by omega)
      have c3 := hcell 3 (by omega)
      have c4 := hcell 4 (by omega)
      have c5 := hcell 5 (by omega)
      rw [add_none, add_none] at c0 c1 c2 c3 c4 c5
      rw [Nat.add_assoc] at c0 c1 c2 c3 c4 c5
      exact ⟨c0, c1, c2, c3, c4, c5⟩)
    exact ⟨O, by omega, hO⟩

theorem arr28 : WideMaps.ArrKey Try.prog 28 27 2 := ⟨Try.underlying28, by kernel_rfl, Try.cells27, Try.cells28⟩
theorem open_arr2_u16 {H : Type} {enc : TypeId × Value → H} {w : World} {base : Nat} {spare : Nat → Bool} {held : Bool} {r : Reach} {b0 : Nat} {v : Value} {d : DataW H} {ps : List MemPlace} (hval : Value.okWide Try.prog w r b0 28 v) (hd : DataW.Trod enc Try.prog w base spare held 28 v d ps) :
    ∃ x y : Int, v = .agg #[.int .u16 x, .int .u16 y] ∧ (Lit.int .u16 x).wf = true ∧ (Lit.int .u16 y).wf = true := by
  obtain ⟨x, y, rfl, _, _, h1, h2⟩ := WideMaps.open_pair arr28 Try.underlying27 hval hd
  exact ⟨x, y, rfl, h1, h2⟩
end Go.Proofs.Ytpejijiolcfglaa
