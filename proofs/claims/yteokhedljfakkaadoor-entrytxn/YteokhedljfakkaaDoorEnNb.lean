/- The law's argument that came in, its numbers too; what a right transaction is. -/
import Derived.Test.YteokhedljfakkaaDoorEnX
import Derived.Test.YteokhedljfakkaaDoorEnRc
namespace Go.Proofs.YteokhedljfakkaaDoor
open Go Go.RowKit Go.ChangeShapes Go.WideShapes Go.ChangeAt
set_option linter.unusedVariables false
set_option linter.unusedSimpArgs false

structure Txi.okN (w : World) (t : Txi) : Prop where
  ok : t.ok w
  kn : ∀ i, i < t.rn → (Lit.int .u64 (t.R i).num).wf = true
set_option maxRecDepth 100000 in
theorem open_rdcN {H : Type} {enc : TypeId × Value → H} {w : World} {base : Nat} {spare : Nat → Bool} {held : Bool} {fuel : Nat} {cs : List Value} {x : DataW H × List MemPlace} (h : DataW.trod enc Tryd.prog w base spare held fuel 66 cs = some x) :
    ∃ r : Rdv, (r.key.size ≤ maxLen ∧ (Lit.int .u64 r.num).wf = true) ∧ cs = r.cells := by
  obtain ⟨xs, m, _, hx0, hl, _, hf⟩ := DataW.trod_struct Tryd.underlying66 h
  rw [Tryd.cells66'] at hl
  match cs, hl with
  | [c0, c1], _ =>
    have g0 := hf 0 _ rfl
    have g1 := hf 1 _ rfl
    simp [Tryd.cells22', Tryd.cells9'] at g0 g1
    have some_of : ∀ {t : TypeId} {cs : List Value} {i : Nat}, i < xs.length → DataW.trod enc Tryd.prog w base spare held m t cs = xs[i]? → ∃ y, DataW.trod enc Tryd.prog w base spare held m t cs = some y := by
      intro t cs i hi he
      rw [List.getElem?_eq_getElem hi] at he
      exact ⟨_, he⟩
    have hxl : xs.length = 2 := by first | exact hx0 | (rename_i hx _; exact hx)
    obtain ⟨y0, g0⟩ := some_of (by omega) g0
    obtain ⟨y1, g1⟩ := some_of (by omega) g1
    obtain ⟨s0, e0, _, w0⟩ := DataW.trod_string Tryd.underlying9 g0
    obtain ⟨n1, e1, _, w1⟩ := DataW.trod_int Tryd.underlying22 g1
    simp only [List.cons.injEq, and_true] at e0 e1
    subst e0 e1
    exact ⟨⟨s0, n1⟩, ⟨w0, w1⟩, rfl⟩
set_option maxRecDepth 100000 in
theorem open_rdsN {H : Type} {enc : TypeId × Value → H} {w : World} {base : Nat} {spare : Nat → Bool} {held : Bool} {fuel : Nat} {cs : List Value} {x : DataW H × List MemPlace} (h : DataW.trod enc Tryd.prog w base spare held fuel 25 cs = some x) :
    ∃ a n c S, cs = [.slice a n c] ∧ Rds w a n S ∧ ∀ i, i < n → (S i).key.size ≤ maxLen ∧ (Lit.int .u64 (S i).num).wf = true := by
  rcases Go.Deep.open_slice Tryd.underlying25' h with ⟨hcs, _⟩ | ⟨x, l, c, m, q, Dd, Pl, hcs, _, hl, hm, hmm, _, hx⟩
  · exact ⟨none, 0, 0, fun _ => ⟨⟨#[]⟩, 0⟩, hcs, ⟨Nat.zero_le _, .inl rfl⟩, fun i hi => by omega⟩
  · have hlm : l ≤ m := by rw [hmm]; split <;> omega
    haveI : Inhabited Rdv := ⟨⟨⟨#[]⟩, 0⟩⟩
    obtain ⟨O, hO⟩ := Go.Deep.choose_lt (α := Rdv) (p := fun i v => (v.key.size ≤ maxLen ∧ (Lit.int .u64 v.num).wf = true) ∧ ∃ b off, some x = some (⟨b, off, none⟩ : Addr) ∧ w.cell? ⟨b, off + i * 2, none⟩ = some (.string v.key) ∧ w.cell? ⟨b, off + i * 2 + 1, none⟩ = some (.int .u64 v.num)) (n := l) (fun i hi => by
      obtain ⟨cs', h1, h2⟩ := hx i (by omega)
      obtain ⟨v, hv⟩ := open_rdcN h2
      obtain ⟨hok, rfl⟩ := hv
      rw [Tryd.cells66'] at h1
      obtain ⟨_, _, hcell⟩ := World.cells?_some h1
      obtain ⟨b, off, spot⟩ := x
      have hspot : spot = none := by
        obtain ⟨cs0, g1, g2⟩ := hx 0 (by omega)
        obtain ⟨o0, ho0⟩ := open_rdcN g2
        obtain rfl := ho0.2
        rw [Tryd.cells66'] at g1
        have := (World.cells?_some g1).2.2 0 (by omega)
        simpa [Addr.add] using World.cell?_spot this
      subst hspot
      have c0 := hcell 0 (by omega)
      have c1 := hcell 1 (by omega)
      rw [Addr.add_lit, Addr.add_lit] at c0 c1
      exact ⟨v, hok, b, off, rfl, c0, c1⟩)
    refine ⟨some x, l, c, O, hcs, ⟨by omega, ?_⟩, fun i hi => (hO i hi).1⟩
    rcases Nat.eq_zero_or_pos l with h0 | hpos
    · exact .inl h0
    · obtain ⟨_, b, off, e0, _⟩ := hO 0 hpos
      refine .inr ⟨b, off, e0, fun i hi => ?_⟩
      obtain ⟨_, b', off', e1, hc⟩ := hO i hi
      rw [e0] at e1
      simp only [Option.some.injEq, Addr.mk.injEq] at e1
      obtain ⟨rfl, rfl, _⟩ := e1
      exact hc
set_option maxRecDepth 100000 in
theorem open_txncN {H : Type} {enc : TypeId × Value → H} {w : World} {base : Nat} {spare : Nat → Bool} {held : Bool} {fuel : Nat} {cs : List Value} {x : DataW H × List MemPlace} (h : DataW.trod enc Tryd.prog w base spare held fuel 28 cs = some x) :
    ∃ t : Txi, t.okN w ∧ cs = t.cells := by
  obtain ⟨xs, m, _, hx0, hl, _, hf⟩ := DataW.trod_struct Tryd.underlying28 h
  rw [Tryd.cells28'] at hl
  match cs, hl with
  | [c0, c1, c2, c3, c4], _ =>
    have g0 := hf 0 _ rfl
    have g1 := hf 1 _ rfl
    have g2 := hf 2 _ rfl
    have g3 := hf 3 _ rfl
    simp [Tryd.cells24', Tryd.cells25', Tryd.cells26', Tryd.cells4'] at g0 g1 g2 g3
    have some_of : ∀ {t : TypeId} {cs : List Value} {i : Nat}, i < xs.length → DataW.trod enc Tryd.prog w base spare held m t cs = xs[i]? → ∃ y, DataW.trod enc Tryd.prog w base spare held m t cs = some y := by
      intro t cs i hi he
      rw [List.getElem?_eq_getElem hi] at he
      exact ⟨_, he⟩
    have hxl : xs.length = 4 := by first | exact hx0 | (rename_i hx _; exact hx)
    obtain ⟨y0, g0⟩ := some_of (by omega) g0
    obtain ⟨y1, g1⟩ := some_of (by omega) g1
    obtain ⟨y2, g2⟩ := some_of (by omega) g2
    obtain ⟨y3, g3⟩ := some_of (by omega) g3
    obtain ⟨id, e0, w0, w1⟩ := open_idc g0
    obtain ⟨b1, e1, _⟩ := DataW.trod_bool Tryd.underlying4 g1
    obtain ⟨ra, rn, rc, R, e2, w2, w3⟩ := open_rdsN g2
    obtain ⟨wa, wn, wc, W, e3, w4, w5⟩ := open_wrs g3
    simp only [List.cons.injEq, and_true] at e0 e1 e2 e3
    obtain ⟨rfl, rfl⟩ := e0
    subst e1 e2 e3
    exact ⟨⟨id, b1, ra, rn, rc, wa, wn, wc, R, W⟩, ⟨⟨w0, w1, w2, w4, fun i hi => (w3 i hi).1, w5⟩, fun i hi => (w3 i hi).2⟩, rfl⟩
set_option maxRecDepth 100000 in
theorem open_txiN {H : Type} {enc : TypeId × Value → H} {w : World} {base : Nat} {spare : Nat → Bool} {held : Bool} {r : Reach} {b0 : Nat} {v : Value} {d : DataW H} {ps : List MemPlace} (hval : Value.okWide Tryd.prog w r b0 28 v) (hd : DataW.Trod enc Tryd.prog w base spare held 28 v d ps) :
    ∃ e : Txi, v = txiv e ∧ e.okN w := by
  obtain ⟨cs, rfl, hsz⟩ := okWide_struct Tryd.underlying28 hval
  obtain ⟨fuel, hf⟩ := hd
  have hf : DataW.trod enc Tryd.prog w base spare held fuel 28 cs.toList = some (d, ps) := hf
  obtain ⟨e, h1, h2⟩ := open_txncN hf
  refine ⟨e, ?_, h1⟩
  have : cs = e.cells.toArray := by rw [← h2]
  rw [this]
  rfl

theorem rtxn_facts {id : Id} {plain : Bool} {l1 : List Rdv} {l2 : List Wrv} (h : rtxn id plain l1 l2 = true) (hn : ∀ r ∈ l1, 0 ≤ r.num ∧ r.num < 18446744073709551616) :
    0 ≤ id.1 ∧ id.1 ≤ 5 ∧ 0 ≤ id.2 ∧ (∀ r ∈ l1, r.key.size ≤ 32 ∧ 0 ≤ r.num ∧ r.num < 18446744073709551616) ∧ (∀ r ∈ l2, r.key.size ≤ 32 ∧ r.val.size ≤ 64) ∧ l1.length ≤ 8 ∧ l2.length ≤ 8 := by
  unfold rtxn at h
  simp only [Bool.and_eq_true] at h
  obtain ⟨⟨⟨⟨h1, h2⟩, h3⟩, h4⟩, h5⟩ := h
  unfold rid at h1
  simp only [Bool.and_eq_true, decide_eq_true_eq] at h1
  have h6 := (rcounts_iff _ _ _).1 h2
  have key : ∀ (ks : List ByteArray), goodB [] ks = true → ∀ x ∈ ks, x.size ≤ 32 := by
    intro ks hk x hx
    obtain ⟨i, hi, rfl⟩ := List.getElem_of_mem hx
    have := ((goodB_iff ks []).1 hk i _ (List.getElem?_eq_getElem hi)).1
    unfold right at this
    simp only [Bool.and_eq_true, decide_eq_true_eq] at this
    exact this.1.2
  refine ⟨h1.1.1, by omega, by omega, fun r hr => ⟨key _ h3 _ (List.mem_map_of_mem hr), hn r hr⟩, fun r hr => ⟨key _ h4 _ (List.mem_map_of_mem hr), ?_⟩, h6.2.1, h6.2.2.1⟩
  have h7 := List.all_eq_true.1 h5 r hr
  unfold rval1 at h7
  simp only [Bool.and_eq_true] at h7
  have h8 := h7.1
  unfold rightVal at h8
  simp only [Bool.and_eq_true, decide_eq_true_eq] at h8
  exact h8.1
theorem ten_nums {n : Nat} {S : Nat → Rdv} (h : ∀ i, i < n → (Lit.int .u64 (S i).num).wf = true) : ∀ x ∈ tenR n S, 0 ≤ x.num ∧ x.num < 18446744073709551616 := by
  intro x hx
  simp only [tenR, List.mem_map, List.mem_range] at hx
  obtain ⟨i, hi, rfl⟩ := hx
  have h1 := h i (by omega)
  have hmin : IntKind.u64.min = 0 := by decide
  have hmax : IntKind.u64.max = 18446744073709551615 := by decide
  simp [Lit.wf] at h1
  omega
end Go.Proofs.YteokhedljfakkaaDoor
