/- The law's call that came in: a struct, as a value. -/
import Derived.Test.YtmahigfamgbhfaaSpE
import Derived.OpenShut
namespace Go.Proofs.Ytmahigfamgbhfaa
open Go.RowKit Go.ChangeShapes Go.WideShapes

/-- one of the law's calls, as a value -/
abbrev sop (kind : Int) (key : ByteArray) (p : Int) (val : ByteArray) (gone : Bool) : Value := .agg #[.int .i64 kind, .string key, .int .i64 p, .string val, .bool gone]
theorem Try.cells61 : Try.prog.cellsOf 61 = 5 := by kernel_rfl
set_option maxRecDepth 100000 in
theorem open_sop {H : Type} {enc : TypeId × Value → H} {w : World} {base : Nat} {spare : Nat → Bool} {held : Bool} {r : Reach} {b0 : Nat} {v : Value} {d : DataW H} {ps : List MemPlace} (hval : Value.okWide Try.prog w r b0 61 v) (hd : DataW.Trod enc Try.prog w base spare held 61 v d ps) :
    ∃ (kind : Int) (key : ByteArray) (p : Int) (val : ByteArray) (gone : Bool), v = sop kind key p val gone ∧ (Lit.int .i64 kind).wf = true ∧ key.size ≤ maxLen ∧ (Lit.int .i64 p).wf = true ∧ val.size ≤ maxLen := by
  obtain ⟨cs, rfl, hsz⟩ := okWide_struct Try.underlying61 hval
  rw [Try.cells61] at hsz
  obtain ⟨l⟩ := cs
  match l, hsz with
  | [c0, c1, c2, c3, c4], _ =>
    obtain ⟨fuel, hf⟩ := hd
    have hf : DataW.trod enc Try.prog w base spare held fuel 61 [c0, c1, c2, c3, c4] = some (d, ps) := hf
    obtain ⟨xs, m, _, _, hl, hx, hf⟩ := DataW.trod_struct Try.underlying61 hf
    have g0 := hf 0 _ rfl
    have g1 := hf 1 _ rfl
    have g2 := hf 2 _ rfl
    have g3 := hf 3 _ rfl
    have g4 := hf 4 _ rfl
    simp [Try.cells3, Try.cells9, Try.cells4] at g0 g1 g2 g3 g4
    have some_of : ∀ {t : TypeId} {cs : List Value} {i : Nat}, i < xs.length → DataW.trod enc Try.prog w base spare held m t cs = xs[i]? → ∃ y, DataW.trod enc Try.prog w base spare held m t cs = some y := by
      intro t cs i hi he
      rw [List.getElem?_eq_getElem hi] at he
      exact ⟨_, he⟩
    have hxl : xs.length = 5 := hx
    obtain ⟨y0, g0⟩ := some_of (by omega) g0
    obtain ⟨y1, g1⟩ := some_of (by omega) g1
    obtain ⟨y2, g2⟩ := some_of (by omega) g2
    obtain ⟨y3, g3⟩ := some_of (by omega) g3
    obtain ⟨y4, g4⟩ := some_of (by omega) g4
    obtain ⟨n0, e0, _, w0⟩ := DataW.trod_int Try.underlying3 g0
    obtain ⟨n1, e1, _, w1⟩ := DataW.trod_string Try.underlying9 g1
    obtain ⟨n2, e2, _, w2⟩ := DataW.trod_int Try.underlying3 g2
    obtain ⟨n3, e3, _, w3⟩ := DataW.trod_string Try.underlying9 g3
    obtain ⟨n4, e4, _⟩ := DataW.trod_bool Try.underlying4 g4
    simp only [List.cons.injEq, and_true] at e0 e1 e2 e3 e4
    subst e0 e1 e2 e3 e4
    exact ⟨n0, n1, n2, n3, n4, rfl, w0, w1, w2, w3⟩
end Go.Proofs.Ytmahigfamgbhfaa
