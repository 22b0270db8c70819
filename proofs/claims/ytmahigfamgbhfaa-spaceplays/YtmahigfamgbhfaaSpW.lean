/- The law's calls that came in: a slice of structs, as it lies in memory. -/
import Derived.Test.YtmahigfamgbhfaaSpV
import Derived.Deep.Slices
namespace Go.Proofs.Ytmahigfamgbhfaa
open Go.RowKit Go.ChangeShapes Go.WideShapes
set_option linter.unusedVariables false

/-- one of the law's calls -/
structure Sop where
  kind : Int
  key : ByteArray
  pos : Int
  val : ByteArray
  gone : Bool
structure Sop.ok (o : Sop) : Prop where
  kind : (Lit.int .i64 o.kind).wf = true
  key : o.key.size ≤ maxLen
  pos : (Lit.int .i64 o.pos).wf = true
  val : o.val.size ≤ maxLen
def Sop.cells (o : Sop) : List Value := [.int .i64 o.kind, .string o.key, .int .i64 o.pos, .string o.val, .bool o.gone]
/-- the law's calls, as a slice's elements lie in memory -/
def Sops (w : World) (a : Option Addr) (n : Nat) (O : Nat → Sop) : Prop :=
  n ≤ maxLen ∧ (n = 0 ∨ ∃ b off, a = some ⟨b, off, none⟩ ∧ ∀ i, i < n → (O i).ok ∧ w.cell? ⟨b, off + i * 5, none⟩ = some (.int .i64 (O i).kind) ∧ w.cell? ⟨b, off + i * 5 + 1, none⟩ = some (.string (O i).key) ∧ w.cell? ⟨b, off + i * 5 + 2, none⟩ = some (.int .i64 (O i).pos) ∧ w.cell? ⟨b, off + i * 5 + 3, none⟩ = some (.string (O i).val) ∧ w.cell? ⟨b, off + i * 5 + 4, none⟩ = some (.bool (O i).gone))
theorem Sops.at {w : World} {a : Option Addr} {n : Nat} {O : Nat → Sop} (h : Sops w a n O) (hn : 0 < n) :
    ∃ b off, a = some ⟨b, off, none⟩ ∧ ∀ i, i < n → (O i).ok ∧ w.cell? ⟨b, off + i * 5, none⟩ = some (.int .i64 (O i).kind) ∧ w.cell? ⟨b, off + i * 5 + 1, none⟩ = some (.string (O i).key) ∧ w.cell? ⟨b, off + i * 5 + 2, none⟩ = some (.int .i64 (O i).pos) ∧ w.cell? ⟨b, off + i * 5 + 3, none⟩ = some (.string (O i).val) ∧ w.cell? ⟨b, off + i * 5 + 4, none⟩ = some (.bool (O i).gone) := by
  rcases h.2 with h | h
  · omega
  · exact h
theorem Sops.later {w wx : World} {a : Option Addr} {n : Nat} {O : Nat → Sop} (h : Sops w a n O) (hb : Below w.heap.size w wx) : Sops wx a n O := by
  refine ⟨h.1, ?_⟩
  rcases h.2 with h | ⟨b, off, e, hc⟩
  · exact .inl h
  · refine .inr ⟨b, off, e, fun i hi => ?_⟩
    obtain ⟨h0, c0, c1, c2, c3, c4⟩ := hc i hi
    exact ⟨h0, cell_later hb c0, cell_later hb c1, cell_later hb c2, cell_later hb c3, cell_later hb c4⟩
set_option maxRecDepth 100000 in
theorem open_sopc {H : Type} {enc : TypeId × Value → H} {w : World} {base : Nat} {spare : Nat → Bool} {held : Bool} {fuel : Nat} {cs : List Value} {x : DataW H × List MemPlace} (h : DataW.trod enc Try.prog w base spare held fuel 61 cs = some x) :
    ∃ v : Sop, v.ok ∧ cs = v.cells := by
  obtain ⟨xs, m, _, hx0, hl, _, hf⟩ := DataW.trod_struct Try.underlying61 h
  rw [Try.cells61] at hl
  match cs, hl with
  | [c0, c1, c2, c3, c4], _ =>
    have g0 := hf 0 _ rfl
    have g1 := hf 1 _ rfl
    have g2 := hf 2 _ rfl
    have g3 := hf 3 _ rfl
    have g4 := hf 4 _ rfl
    simp [Try.cells3, Try.cells9, Try.cells4] at g0 g1 g2 g3 g4
    have some_of : ∀ {t : TypeId} {cs : List Value} {i : Nat}, i < xs.length → DataW.trod enc Try.prog w base spare held m t cs = xs[i]? → ∃ y, DataW.trod enc Try.prog w base spare held m t cs = some y := by
      intro t cs i hi he
      rw [List.getElem?_eq_getElem hi] at he
      exact ⟨_, he⟩
    have hxl : xs.length = 5 := by first | exact hx0 | (rename_i hx _; exact hx)
    obtain ⟨y0, g0⟩ := some_of (by omega) g0
    obtain ⟨y1, g1⟩ := some_of (by omega) g1
    obtain ⟨y2, g2⟩ := some_of (by omega) g2
    obtain ⟨y3, g3⟩ := some_of (by omega) g3
    obtain ⟨y4, g4⟩ := some_of (by omega) g4
    obtain ⟨n0, e0, _, w0⟩ := DataW.trod_int Try.underlying3 g0
    obtain ⟨n1, e1, _, w1⟩ := DataW.trod_string Try.underlying9 g1
    obtain ⟨n2, e2, _, w2⟩ := DataW.trod_int Try.underlying3 g2
    obtain ⟨n3, e3, _, w3⟩ := DataW.trod_string Try.underlying9 g3
    obtain ⟨n4, e4, _⟩ := DataW.trod_bool Try.underlying4 g4
    simp only [List.cons.injEq, and_true] at e0 e1 e2 e3 e4
    subst e0 e1 e2 e3 e4
    exact ⟨⟨n0, n1, n2, n3, n4⟩, ⟨w0, w1, w2, w3⟩, rfl⟩
theorem Try.underlying53' : Try.prog.underlying 53 = some (.slice 61) := by kernel_rfl
set_option maxRecDepth 100000 in
theorem open_sops {H : Type} {enc : TypeId × Value → H} {w : World} {base : Nat} {spare : Nat → Bool} {held : Bool} {a : Option Addr} {len cap : Nat} {d : DataW H} {ps : List MemPlace} (h : DataW.Trod enc Try.prog w base spare held 53 (.slice a len cap) d ps) :
    ∃ O, Sops w a len O := by
  obtain ⟨fuel, hf⟩ := h
  rcases Go.Deep.open_slice Try.underlying53' hf with ⟨hcs, _⟩ | ⟨x, l, c, m, q, D, Pl, hcs, _, hl, hm, hmm, _, hx⟩
  · simp [Value.cells] at hcs
    obtain ⟨rfl, rfl, rfl⟩ := hcs
    exact ⟨fun _ => ⟨0, ⟨#[]⟩, 0, ⟨#[]⟩, false⟩, Nat.zero_le _, .inl rfl⟩
  · simp [Value.cells] at hcs
    obtain ⟨rfl, rfl, rfl⟩ := hcs
    have hlm : len ≤ m := by rw [hmm]; split <;> omega
    haveI : Inhabited Sop := ⟨⟨0, ⟨#[]⟩, 0, ⟨#[]⟩, false⟩⟩
    obtain ⟨O, hO⟩ := Go.Deep.choose_lt (α := Sop) (p := fun i v => v.ok ∧ ∃ b off, some x = some (⟨b, off, none⟩ : Addr) ∧
      w.cell? ⟨b, off + i * 5, none⟩ = some (.int .i64 v.kind) ∧ w.cell? ⟨b, off + i * 5 + 1, none⟩ = some (.string v.key) ∧ w.cell? ⟨b, off + i * 5 + 2, none⟩ = some (.int .i64 v.pos) ∧ w.cell? ⟨b, off + i * 5 + 3, none⟩ = some (.string v.val) ∧ w.cell? ⟨b, off + i * 5 + 4, none⟩ = some (.bool v.gone)) (n := len) (fun i hi => by
      obtain ⟨cs', h1, h2⟩ := hx i (by omega)
      obtain ⟨v, hv, rfl⟩ := open_sopc h2
      rw [Try.cells61] at h1
      obtain ⟨_, _, hcell⟩ := World.cells?_some h1
      obtain ⟨b, off, spot⟩ := x
      have hspot : spot = none := by
        obtain ⟨cs0, g1, g2⟩ := hx 0 (by omega)
        obtain ⟨o0, _, rfl⟩ := open_sopc g2
        rw [Try.cells61] at g1
        have := (World.cells?_some g1).2.2 0 (by omega)
        simpa [Addr.add] using World.cell?_spot this
      subst hspot
      refine ⟨v, hv, b, off, rfl, ?_⟩
      have c0 := hcell 0 (by omega)
      have c1 := hcell 1 (by omega)
      have c2 := hcell 2 (by omega)
      have c3 := hcell 3 (by omega)
      have c4 := hcell 4 (by omega)
      rw [add_none, add_none] at c0 c1 c2 c3 c4
      exact ⟨c0, c1, c2, c3, c4⟩)
    refine ⟨O, by omega, ?_⟩
    rcases Nat.eq_zero_or_pos len with rfl | hpos
    · exact .inl rfl
    · obtain ⟨_, b, off, e0, _⟩ := hO 0 hpos
      refine .inr ⟨b, off, e0, fun i hi => ?_⟩
      obtain ⟨hok, b', off', e1, hc⟩ := hO i hi
      rw [e0] at e1
      simp only [Option.some.injEq, Addr.mk.injEq] at e1
      obtain ⟨rfl, rfl, _⟩ := e1
      exact ⟨hok, hc⟩
end Go.Proofs.Ytmahigfamgbhfaa
