/- Configurations that came in. -/
import Derived.Test.YtgpjplpfjghcgaaCoH
import Derived.OpenShut
import Derived.Deep.Slices
namespace Go.Proofs.Ytgpjplpfjghcgaa
open Go Go.RowKit Go.ChangeShapes Go.WideShapes
set_option linter.unusedVariables false
set_option linter.unusedSimpArgs false

/-- a configuration of the document's that came in -/
structure In where
  ep : Nat
  sh : Int
  a : Option Addr
  n : Nat
  c : Nat
  M : Nat → Mb
  le : Int
structure In.ok (w : World) (i : In) : Prop where
  ep : i.ep < 18446744073709551616
  sh : (Lit.int .i64 i.sh).wf = true
  le : (Lit.int .i64 i.le).wf = true
  mems : Mems w i.a i.n i.M
abbrev inv (i : In) : Value := .agg #[.int .u64 (i.ep : Nat), .int .i64 i.sh, .slice i.a i.n i.c, .int .i64 i.le]
theorem In.ok.later {w wx : World} {i : In} (h : i.ok w) (hb : Below w.heap.size w wx) : i.ok wx := ⟨h.ep, h.sh, h.le, h.mems.later hb⟩
theorem Try.cells25 : Try.prog.cellsOf 25 = 4 := by kernel_rfl
theorem Try.cells40 : Try.prog.cellsOf 40 = 2 := by kernel_rfl
theorem Try.cells3' : Try.prog.cellsOf 3 = 1 := by kernel_rfl
theorem Try.cells4' : Try.prog.cellsOf 4 = 1 := by kernel_rfl
theorem Try.cells22' : Try.prog.cellsOf 22 = 1 := by kernel_rfl
theorem Try.cells23' : Try.prog.cellsOf 23 = 1 := by kernel_rfl
set_option maxRecDepth 100000 in
theorem open_memc {H : Type} {enc : TypeId × Value → H} {w : World} {base : Nat} {spare : Nat → Bool} {held : Bool} {fuel : Nat} {cs : List Value} {x : DataW H × List MemPlace} (h : DataW.trod enc Try.prog w base spare held fuel 40 cs = some x) :
    ∃ m : Mb, cs = [.int .i64 m.1, .bool m.2] ∧ (Lit.int .i64 m.1).wf = true := by
  obtain ⟨xs, m, _, hx0, hl, _, hf⟩ := DataW.trod_struct Try.underlying40 h
  rw [Try.cells40] at hl
  match cs, hl with
  | [c0, c1], _ =>
    have g0 := hf 0 _ rfl
    have g1 := hf 1 _ rfl
    simp [Try.cells3', Try.cells4'] at g0 g1
    have some_of : ∀ {t : TypeId} {cs : List Value} {i : Nat}, i < xs.length → DataW.trod enc Try.prog w base spare held m t cs = xs[i]? → ∃ y, DataW.trod enc Try.prog w base spare held m t cs = some y := by
      intro t cs i hi he
      rw [List.getElem?_eq_getElem hi] at he
      exact ⟨_, he⟩
    have hxl : xs.length = 2 := by first | exact hx0 | (rename_i hx _; exact hx)
    obtain ⟨y0, g0⟩ := some_of (by omega) g0
    obtain ⟨y1, g1⟩ := some_of (by omega) g1
    obtain ⟨n0, e0, _, w0⟩ := DataW.trod_int Try.underlying3 g0
    obtain ⟨n1, e1, _⟩ := DataW.trod_bool Try.underlying4 g1
    simp only [List.cons.injEq, and_true] at e0 e1
    subst e0 e1
    exact ⟨(n0, n1), rfl, w0⟩
theorem Try.underlying23' : Try.prog.underlying 23 = some (.slice 40) := by kernel_rfl
set_option maxRecDepth 100000 in
theorem open_mems {H : Type} {enc : TypeId × Value → H} {w : World} {base : Nat} {spare : Nat → Bool} {held : Bool} {fuel : Nat} {cs : List Value} {x : DataW H × List MemPlace} (h : DataW.trod enc Try.prog w base spare held fuel 23 cs = some x) :
    ∃ a len cap M, cs = [.slice a len cap] ∧ Mems w a len M := by
  rcases Go.Deep.open_slice Try.underlying23' h with ⟨hcs, _⟩ | ⟨x, l, c, m, q, D, Pl, hcs, _, hl, hm, hmm, _, hx⟩
  · exact ⟨_, _, _, fun _ => (0, false), hcs, Nat.zero_le _, .inl rfl⟩
  · have hlm : l ≤ m := by rw [hmm]; split <;> omega
    obtain ⟨O, hO⟩ := Go.Deep.choose_lt (α := Mb) (p := fun i v => ∃ b off, some x = some (⟨b, off, none⟩ : Addr) ∧
      w.cell? ⟨b, off + i * 2, none⟩ = some (.int .i64 v.1) ∧ w.cell? ⟨b, off + i * 2 + 1, none⟩ = some (.bool v.2)) (n := l) (fun i hi => by
      obtain ⟨cs', h1, h2⟩ := hx i (by omega)
      obtain ⟨v, rfl, hv⟩ := open_memc h2
      rw [Try.cells40] at h1
      obtain ⟨_, _, hcell⟩ := World.cells?_some h1
      obtain ⟨b, off, spot⟩ := x
      have hspot : spot = none := by
        obtain ⟨cs0, g1, g2⟩ := hx 0 (by omega)
        obtain ⟨o0, rfl, _⟩ := open_memc g2
        rw [Try.cells40] at g1
        have := (World.cells?_some g1).2.2 0 (by omega)
        simpa [Addr.add] using World.cell?_spot this
      subst hspot
      refine ⟨v, b, off, rfl, ?_⟩
      have c0 := hcell 0 (by omega)
      have c1 := hcell 1 (by omega)
      rw [Addr.add_lit, Addr.add_lit] at c0 c1
      exact ⟨c0, c1⟩)
    refine ⟨_, _, _, O, hcs, by omega, ?_⟩
    rcases Nat.eq_zero_or_pos l with rfl | hpos
    · exact .inl rfl
    · obtain ⟨b, off, e0, _⟩ := hO 0 hpos
      refine .inr ⟨b, off, e0, fun i hi => ?_⟩
      obtain ⟨b', off', e1, hc⟩ := hO i hi
      rw [e0] at e1
      simp only [Option.some.injEq, Addr.mk.injEq] at e1
      obtain ⟨rfl, rfl, _⟩ := e1
      exact hc
set_option maxRecDepth 100000 in
theorem open_in {H : Type} {enc : TypeId × Value → H} {w : World} {base : Nat} {spare : Nat → Bool} {held : Bool} {r : Reach} {b0 : Nat} {v : Value} {d : DataW H} {ps : List MemPlace} (hval : Value.okWide Try.prog w r b0 25 v) (hd : DataW.Trod enc Try.prog w base spare held 25 v d ps) :
    ∃ i : In, v = inv i ∧ i.ok w := by
  obtain ⟨cs, rfl, hsz⟩ := okWide_struct Try.underlying25 hval
  obtain ⟨fuel, hf⟩ := hd
  have h : DataW.trod enc Try.prog w base spare held fuel 25 cs.toList = some (d, ps) := hf
  obtain ⟨xs, m, k1, k2, hl, k3, hf⟩ := DataW.trod_struct Try.underlying25 h
  rw [Try.cells25] at hl
  obtain ⟨cl⟩ := cs
  simp only at hl hf
  match cl, hl with
  | [c0, c1, c2, c3], _ =>
    have g0 := hf 0 _ rfl
    have g1 := hf 1 _ rfl
    have g2 := hf 2 _ rfl
    have g3 := hf 3 _ rfl
    simp [Try.cells3', Try.cells22', Try.cells23'] at g0 g1 g2 g3
    have some_of : ∀ {t : TypeId} {cs : List Value} {i : Nat}, i < xs.length → DataW.trod enc Try.prog w base spare held m t cs = xs[i]? → ∃ y, DataW.trod enc Try.prog w base spare held m t cs = some y := by
      intro t cs i hi he
      rw [List.getElem?_eq_getElem hi] at he
      exact ⟨_, he⟩
    have hxl : xs.length = 4 := by first | exact k2 | exact k1 | exact k3
    obtain ⟨y0, g0⟩ := some_of (by omega) g0
    obtain ⟨y1, g1⟩ := some_of (by omega) g1
    obtain ⟨y2, g2⟩ := some_of (by omega) g2
    obtain ⟨y3, g3⟩ := some_of (by omega) g3
    obtain ⟨n0, e0, _, w0⟩ := DataW.trod_int Try.underlying22 g0
    obtain ⟨n1, e1, _, w1⟩ := DataW.trod_int Try.underlying3 g1
    obtain ⟨a, n, c, M, e2, w2⟩ := open_mems g2
    obtain ⟨n3, e3, _, w3⟩ := DataW.trod_int Try.underlying3 g3
    simp only [List.cons.injEq, and_true] at e0 e1 e2 e3
    subst e0 e1 e2 e3
    have hb := bounds_u64 w0
    obtain ⟨ep, rfl⟩ : ∃ ep : Nat, n0 = (ep : Int) := ⟨n0.toNat, by omega⟩
    exact ⟨⟨ep, n1, a, n, c, M, n3⟩, rfl, by show ep < _; omega, w1, w3, w2⟩
end Go.Proofs.Ytgpjplpfjghcgaa
