/- What comes in; rows of texts held against one another; the chapter's example. -/
import Derived.Test.YtfibjbjheilpfaaLeG
import Derived.OpenShut
import Derived.Deep.Slices
namespace Go.Proofs.Ytfibjbjheilpfaa
open Go Go.RowKit Go.ChangeShapes Go.WideShapes
set_option linter.unusedVariables false
set_option linter.unusedSimpArgs false

theorem cell_later {w wx : World} {a : Addr} {v : Value} (hb : Below w.heap.size w wx) (h : w.cell? a = some v) : wx.cell? a = some v := by
  rw [World.cell?_of_block (hb.block a.block (World.block_lt_of_cell? w _ h))]
  exact h
/-- texts, as a slice's elements lie in memory -/
def Strs (w : World) (a : Option Addr) (n : Nat) (ss : List ByteArray) : Prop :=
  ss.length = n ∧ (∀ x ∈ ss, x.size ≤ maxLen) ∧ n ≤ maxLen ∧ (n = 0 ∨ ∃ b off, a = some ⟨b, off, none⟩ ∧ ∀ j x, ss[j]? = some x → w.cell? ⟨b, off + j, none⟩ = some (.string x))

theorem Strs.later {w wx : World} {a : Option Addr} {n : Nat} {ss : List ByteArray} (hr : Strs w a n ss) (hb : Below w.heap.size w wx) : Strs wx a n ss := by
  obtain ⟨h1, h2, h3, h⟩ := hr
  refine ⟨h1, h2, h3, ?_⟩
  rcases h with h | ⟨b, off, h, hc⟩
  · exact .inl h
  · exact .inr ⟨b, off, h, fun i x hi => cell_later hb (hc i x hi)⟩
theorem Strs.none {w : World} {a : Option Addr} : Strs w a 0 [] := ⟨rfl, by simp, by simp [maxLen], .inl rfl⟩
theorem Strs.of {w : World} {x : Addr} {len cap : Nat} {ss : List ByteArray} (hl : len ≤ cap) (hm : cap ≤ maxLen) (hz : ss.length = cap)
    (hcell : ∀ i, i < ss.length → w.cell? (x.add i) = some (.string (ss.getD i ByteArray.empty))) (hw : ∀ s ∈ ss, s.size ≤ maxLen) : Strs w (some x) len (ss.take len) := by
  refine ⟨by simp; omega, fun y hy => hw y (List.mem_of_mem_take hy), by omega, ?_⟩
  by_cases h0 : len = 0
  · exact .inl h0
  · right
    obtain ⟨b, off, spot⟩ := x
    have hc := hcell 0 (by omega)
    have hspot : spot = .none := by simpa [Addr.add] using World.cell?_spot hc
    subst hspot
    refine ⟨b, off, rfl, fun j y hj => ?_⟩
    have hj2 : j < (ss.take len).length := (List.getElem?_eq_some_iff.1 hj).1
    simp at hj2
    have h1 := hcell j (by omega)
    rw [Addr.add_lit] at h1
    rw [h1]
    rw [List.getElem?_take_of_lt (by omega)] at hj
    simp [hj]


/-- the law's rows, as a slice's elements lie in memory -/
def RoOk (x : Ro) : Prop := (Lit.int .i64 x.1).wf = true ∧ x.2.size ≤ maxLen
def Rws (w : World) (a : Option Addr) (n : Nat) (O : Nat → Ro) : Prop :=
  n ≤ maxLen ∧ (n = 0 ∨ ∃ b off, a = some ⟨b, off, none⟩ ∧ ∀ i, i < n → RoOk (O i) ∧ w.cell? ⟨b, off + i * 2, none⟩ = some (.int .i64 (O i).1) ∧ w.cell? ⟨b, off + i * 2 + 1, none⟩ = some (.string (O i).2))
theorem Rws.at {w : World} {a : Option Addr} {n : Nat} {O : Nat → Ro} (h : Rws w a n O) (hn : 0 < n) : ∃ b off, a = some ⟨b, off, none⟩ ∧ ∀ i, i < n → RoOk (O i) ∧ w.cell? ⟨b, off + i * 2, none⟩ = some (.int .i64 (O i).1) ∧ w.cell? ⟨b, off + i * 2 + 1, none⟩ = some (.string (O i).2) := by
  rcases h.2 with h | h
  · omega
  · exact h
theorem Try.cells29 : Try.prog.cellsOf 29 = 2 := by kernel_rfl
theorem Try.cells3' : Try.prog.cellsOf 3 = 1 := by kernel_rfl
theorem Try.cells9' : Try.prog.cellsOf 9 = 1 := by kernel_rfl
set_option maxRecDepth 100000 in
theorem open_roc {H : Type} {enc : TypeId × Value → H} {w : World} {base : Nat} {spare : Nat → Bool} {held : Bool} {fuel : Nat} {cs : List Value} {x : DataW H × List MemPlace} (h : DataW.trod enc Try.prog w base spare held fuel 29 cs = some x) :
    ∃ r : Ro, RoOk r ∧ cs = rcells r := by
  obtain ⟨xs, m, _, hx0, hl, _, hf⟩ := DataW.trod_struct Try.underlying29 h
  rw [Try.cells29] at hl
  match cs, hl with
  | [c0, c1], _ =>
    have g0 := hf 0 _ rfl
    have g1 := hf 1 _ rfl
    simp [Try.cells3', Try.cells9'] at g0 g1
    have some_of : ∀ {t : TypeId} {cs : List Value} {i : Nat}, i < xs.length → DataW.trod enc Try.prog w base spare held m t cs = xs[i]? → ∃ y, DataW.trod enc Try.prog w base spare held m t cs = some y := by
      intro t cs i hi he
      rw [List.getElem?_eq_getElem hi] at he
      exact ⟨_, he⟩
    have hxl : xs.length = 2 := by first | exact hx0 | (rename_i hx _; exact hx)
    obtain ⟨y0, g0⟩ := some_of (by omega) g0
    obtain ⟨y1, g1⟩ := some_of (by omega) g1
    obtain ⟨n0, e0, _, w0⟩ := DataW.trod_int Try.underlying3 g0
    obtain ⟨s1, e1, _, w1⟩ := DataW.trod_string Try.underlying9 g1
    simp only [List.cons.injEq, and_true] at e0 e1
    subst e0 e1
    exact ⟨(n0, s1), ⟨w0, w1⟩, rfl⟩
theorem Try.underlying22' : Try.prog.underlying 22 = some (.slice 29) := by kernel_rfl
set_option maxRecDepth 100000 in
theorem open_rws {H : Type} {enc : TypeId × Value → H} {w : World} {base : Nat} {spare : Nat → Bool} {held : Bool} {a : Option Addr} {len cap : Nat} {d : DataW H} {ps : List MemPlace} (h : DataW.Trod enc Try.prog w base spare held 22 (.slice a len cap) d ps) :
    ∃ O, Rws w a len O := by
  obtain ⟨fuel, hf⟩ := h
  rcases Go.Deep.open_slice Try.underlying22' hf with ⟨hcs, _⟩ | ⟨x, l, c, m, q, D, Pl, hcs, _, hl, hm, hmm, _, hx⟩
  · simp [Value.cells] at hcs
    obtain ⟨rfl, rfl, rfl⟩ := hcs
    exact ⟨fun _ => (0, ⟨#[]⟩), Nat.zero_le _, .inl rfl⟩
  · simp [Value.cells] at hcs
    obtain ⟨rfl, rfl, rfl⟩ := hcs
    have hlm : len ≤ m := by rw [hmm]; split <;> omega
    haveI : Inhabited Ro := ⟨(0, ⟨#[]⟩)⟩
    obtain ⟨O, hO⟩ := Go.Deep.choose_lt (α := Ro) (p := fun i v => RoOk v ∧ ∃ b off, some x = some (⟨b, off, none⟩ : Addr) ∧
      w.cell? ⟨b, off + i * 2, none⟩ = some (.int .i64 v.1) ∧ w.cell? ⟨b, off + i * 2 + 1, none⟩ = some (.string v.2)) (n := len) (fun i hi => by
      obtain ⟨cs', h1, h2⟩ := hx i (by omega)
      obtain ⟨v, hv, rfl⟩ := open_roc h2
      rw [Try.cells29] at h1
      obtain ⟨_, _, hcell⟩ := World.cells?_some h1
      obtain ⟨b, off, spot⟩ := x
      have hspot : spot = none := by
        obtain ⟨cs0, g1, g2⟩ := hx 0 (by omega)
        obtain ⟨o0, _, rfl⟩ := open_roc g2
        rw [Try.cells29] at g1
        have := (World.cells?_some g1).2.2 0 (by omega)
        simpa [Addr.add] using World.cell?_spot this
      subst hspot
      refine ⟨v, hv, b, off, rfl, ?_⟩
      have c0 := hcell 0 (by omega)
      have c1 := hcell 1 (by omega)
      rw [Addr.add_lit, Addr.add_lit] at c0 c1
      exact ⟨c0, c1⟩)
    refine ⟨O, by omega, ?_⟩
    rcases Nat.eq_zero_or_pos len with rfl | hpos
    · exact .inl rfl
    · obtain ⟨_, b, off, e0, _⟩ := hO 0 hpos
      refine .inr ⟨b, off, e0, fun i hi => ?_⟩
      obtain ⟨hok, b', off', e1, hc⟩ := hO i hi
      rw [e0] at e1
      simp only [Option.some.injEq, Addr.mk.injEq] at e1
      obtain ⟨rfl, rfl, _⟩ := e1
      exact ⟨hok, hc⟩
theorem neq_str (s : ByteArray) : (s.toList != s.toList) = false := by simp
set_option maxRecDepth 100000 in
set_option maxHeartbeats 2000000 in
theorem keysame_any (b1 b2 : Nat) (va vb : Value) (l : List ByteArray) (w : World) (h1 : OwnV w b1 9 va (encs l)) (h2 : OwnV w b2 9 vb (encs l)) :
    Calls Try.prog 16 #[va, vb] w fun e w' => e = .returned (.bool true) ∧ Below w.heap.size w w' := by
  obtain ⟨a, c, rfl, ha1, ha2, -, ha3⟩ := h1.shape
  obtain ⟨a', c', rfl, hb1, hb2, -, hb3⟩ := h2.shape
  have e := h1.1
  simp only [encs, List.length_map] at ha1 hb1 ⊢
  have hl : l.length ≤ 9223372036854775807 := by unfold maxLen at ha2; omega
  have HA : Hid (∀ x, a = some x → ∃ g, x = ⟨g, 0, none⟩ ∧ b1 ≤ g ∧ g < w.heap.size ∧ ∀ j u, (encs l)[j]? = some u → w.cell? ⟨g, j, none⟩ = some u) := ha3
  have HB : Hid (∀ x, a' = some x → ∃ g, x = ⟨g, 0, none⟩ ∧ b2 ≤ g ∧ g < w.heap.size ∧ ∀ j u, (encs l)[j]? = some u → w.cell? ⟨g, j, none⟩ = some u) := hb3
  have HA0 : Hid (a = none → l = []) := fun h => by
    have := h1.shape
    subst h
    obtain ⟨a9, c9, e9, -, -, h9, -⟩ := this
    simp only [Value.slice.injEq] at e9
    have := (h9 e9.1.symm).1
    simpa using this
  have HB0 : Hid (a' = none → l = []) := fun h => by
    have := h2.shape
    subst h
    obtain ⟨a9, c9, e9, -, -, h9, -⟩ := this
    simp only [Value.slice.injEq] at e9
    have := (h9 e9.1.symm).1
    simpa using this
  clear ha1 ha2 ha3 hb1 hb2 hb3 h1 h2 e
  go_enter Try.func16, Try.ntmps16
  go_wp2
  go_loopw [13] (fun t wr => ∃ k : Nat, t = .int .i64 (k : Nat) ∧ k ≤ l.length ∧ Hid (Below w.heap.size w wr)) (fun t _ => l.length - (intOf t).toNat)
  case atStart => exact ⟨0, rfl, by omega, Below.refl _ _⟩
  case round =>
    obtain ⟨k, rfl, hk, HW⟩ := hrel
    by_cases hlt : k < l.length
    · obtain ⟨x, rfl⟩ : ∃ x, a = some x := by
        cases a with
        | none => have := HA0.out rfl; subst this; simp at hlt
        | some x => exact ⟨x, rfl⟩
      obtain ⟨x', rfl⟩ : ∃ x, a' = some x := by
        cases a' with
        | none => have := HB0.out rfl; subst this; simp at hlt
        | some x => exact ⟨x, rfl⟩
      obtain ⟨ga, rfl, -, hga, hca⟩ := HA.out x rfl
      obtain ⟨gb, rfl, -, hgb, hcb⟩ := HB.out x' rfl
      have hx : (encs l)[k]? = some (.string l[k]) := by rw [encs, List.getElem?_map, List.getElem?_eq_getElem hlt]; rfl
      have d0 := (HW.out.cell (p := ⟨ga, k, none⟩) hga).trans (hca k _ hx)
      have d1 := (HW.out.cell (p := ⟨gb, k, none⟩) hgb).trans (hcb k _ hx)
      generalize l[k] = s at d0 d1
      have hne := neq_str s
      clear hx hca hcb hga hgb
      go_upto_region 6 with fail
      refine wp_region_noPanic ?_
      refine wp_region_held_drew (S := (fun w' => w'.cell? ⟨ga, k, none⟩ = some (.string s) ∧ w'.cell? ⟨gb, k, none⟩ = some (.string s))) (by kernel_rfl) ?_ (fun hHeld => ?_)
      · exact ⟨d0, d1⟩
      refine held_take (i := 0) (d := 16) (v := ?_) rfl rfl (by kernel_rfl) (by kernel_rfl) (by kernel_rfl) (fun _ _ _ h => h) (Or.inl ⟨by rfl, ?_⟩) hHeld ?_
      rotate_left
      · (intro w hSw; (try dsimp only at hSw); go_simp; all_goals (with_reducible rfl))
      try simp only [Act.put, List.setIfInBounds_toArray, List.set_cons_zero, List.set_cons_succ]
      refine held_take (i := 1) (d := 17) (v := ?_) rfl rfl (by kernel_rfl) (by kernel_rfl) (by kernel_rfl) (fun _ _ _ h => h) (Or.inl ⟨by rfl, ?_⟩) hHeld ?_
      rotate_left
      · (intro w hSw; (try dsimp only at hSw); go_simp; all_goals (with_reducible rfl))
      try simp only [Act.put, List.setIfInBounds_toArray, List.set_cons_zero, List.set_cons_succ]
      refine held_take (i := 2) (d := 18) (v := ?_) rfl rfl (by kernel_rfl) (by kernel_rfl) (by kernel_rfl) (fun _ _ _ h => h) (Or.inl ⟨by rfl, ?_⟩) hHeld ?_
      rotate_left
      · (intro w hSw; (try dsimp only at hSw); go_simp; all_goals (with_reducible rfl))
      try simp only [Act.put, List.setIfInBounds_toArray, List.set_cons_zero, List.set_cons_succ]
      refine held_take (i := 3) (d := 19) (v := ?_) rfl rfl (by kernel_rfl) (by kernel_rfl) (by kernel_rfl) (fun _ _ _ h => h) (Or.inl ⟨by rfl, ?_⟩) hHeld ?_
      rotate_left
      · (intro w hSw; (try dsimp only at hSw); go_simp; all_goals (with_reducible rfl))
      try simp only [Act.put, List.setIfInBounds_toArray, List.set_cons_zero, List.set_cons_succ]
      refine held_take (i := 4) (d := 20) (v := ?_) rfl rfl (by kernel_rfl) (by kernel_rfl) (by kernel_rfl) (fun _ _ _ h => h) (Or.inl ⟨by rfl, ?_⟩) hHeld ?_
      rotate_left
      · (intro w hSw; (try dsimp only at hSw); go_simp; all_goals (with_reducible rfl))
      try simp only [Act.put, List.setIfInBounds_toArray, List.set_cons_zero, List.set_cons_succ]
      refine held_take (i := 5) (d := 21) (v := ?_) rfl rfl (by kernel_rfl) (by kernel_rfl) (by kernel_rfl) (fun _ _ _ h => h) (Or.inl ⟨by rfl, ?_⟩) hHeld ?_
      rotate_left
      · (intro w hSw; (try dsimp only at hSw); go_simp; all_goals (with_reducible rfl))
      try simp only [Act.put, List.setIfInBounds_toArray, List.set_cons_zero, List.set_cons_succ]
      refine held_take (i := 6) (d := 22) (v := ?_) rfl rfl (by kernel_rfl) (by kernel_rfl) (by kernel_rfl) (fun _ _ _ h => h) (Or.inl ⟨by rfl, ?_⟩) hHeld ?_
      rotate_left
      · (intro w hSw; (try dsimp only at hSw); go_simp; all_goals (with_reducible rfl))
      try simp only [Act.put, List.setIfInBounds_toArray, List.set_cons_zero, List.set_cons_succ]
      refine held_take (i := 7) (d := 23) (v := ?_) rfl rfl (by kernel_rfl) (by kernel_rfl) (by kernel_rfl) (fun _ _ _ h => h) (Or.inl ⟨by rfl, ?_⟩) hHeld ?_
      rotate_left
      · (intro w hSw; (try dsimp only at hSw); go_simp; all_goals (with_reducible rfl))
      try simp only [Act.put, List.setIfInBounds_toArray, List.set_cons_zero, List.set_cons_succ]
      refine held_take (i := 8) (d := 24) (v := ?_) rfl rfl (by kernel_rfl) (by kernel_rfl) (by kernel_rfl) (fun _ _ _ h => h) (Or.inl ⟨by rfl, ?_⟩) hHeld ?_
      rotate_left
      · (intro w hSw; (try dsimp only at hSw); go_simp; all_goals (with_reducible rfl))
      try simp only [Act.put, List.setIfInBounds_toArray, List.set_cons_zero, List.set_cons_succ]
      refine wpAnyH_done (by kernel_rfl) ?_ _
      refine NoPanic.normal ?_
      have HW2 : Hid (Below w.heap.size w wr.drew) := HW.out.drew
      clear d0 d1
      go_wp2
      go_roundw
      case rel => exact ⟨k + 1, by go_num, by omega, HW2⟩
      case measure => simp [intOf]; omega
    · go_wp2
      go_ret
      exact ⟨rfl, HW.out⟩


abbrev nilC : Ch := fun _ => none
def aw1 : Ch := learnC nilC 0 ⟨#[120]⟩
def aw2 : Ch := learnC aw1 2 ⟨#[121]⟩
theorem aw_a : learnE nilC 0 ⟨#[120]⟩ = 0 := by decide
theorem aw_b : learnE aw1 2 ⟨#[121]⟩ = 0 := by decide
theorem aw_p : prefC aw2 = 1 := prefC_is _ 1 (by decide) (fun i hi => by
  have h0 : i = 0 := by omega
  rw [h0]; decide) (fun _ => by decide)
theorem aw_t : topC aw2 = 3 := topC_is _ 3 (by decide) (fun i hi _ => by
  have e : aw2 = setC (setC nilC 0 ⟨#[120]⟩) 2 ⟨#[121]⟩ := by rw [aw2, learnC, if_pos aw_b, aw1, learnC, if_pos aw_a]; rfl
  rw [e, hasC_set, hasC_set, if_neg (by omega), if_neg (by omega)]
  rfl) (fun _ => by decide)
theorem below_of_grown {base : Nat} {w w' : World} {b : Nat} (h : w.grownBy w' (some b)) (h1 : base ≤ w.heap.size) (h2 : base ≤ b) : Below base w w' :=
  ⟨h.os, h.tape, h.output, h.size, fun k hk => h.block k (by omega) (fun e => by simp at e; omega)⟩
set_option maxRecDepth 100000 in
set_option maxHeartbeats 2000000 in
theorem awake_any (w : World) : Calls Try.prog 19 #[] w fun e w' => e = .returned (.bool true) ∧ Below w.heap.size w w' := by
  have hx : (⟨#[120]⟩ : ByteArray).size ≤ maxLen := by decide
  have hy : (⟨#[121]⟩ : ByteArray).size ≤ maxLen := by decide
  go_enter Try.func19, Try.ntmps19
  go_wp2_with fail
  refine (new_any w).mono ?_
  rintro e w0 ⟨rfl, hS0, hb0⟩
  have HG : Hid (w.heap.size ≤ w.heap.size) := Nat.le_refl _
  have HS : Hid (Le w0 w.heap.size nilC) := hS0
  have HB : Hid (Below w.heap.size w w0) := hb0
  clear hS0 hb0
  have HPW : Hid (w.heap.size = w.heap.size) := rfl
  generalize hg : w.heap.size = g at *
  have HE : Hid (w.heap.size = g) := hg
  clear hg
  have h1 := learn_any g nilC 0 ⟨#[120]⟩ w0 HS.out hx
  rw [aw_a] at h1
  go_wp2_with fail
  refine h1.mono ?_
  clear h1
  rintro e w1 ⟨rfl, hS1, hg1⟩
  have HS1 : Hid (Le w1 g aw1) := hS1
  have HB1 : Hid (Below g w w1) := HB.out.trans (below_of_grown hg1 (by have := HS.out.lt; omega) HG.out)
  clear hS1 hg1 HS HB
  have h1 := learn_any g aw1 2 ⟨#[121]⟩ w1 HS1.out hy
  rw [aw_b] at h1
  go_wp2_with fail
  refine h1.mono ?_
  clear h1
  rintro e w2 ⟨rfl, hS2, hg2⟩
  have HS2 : Hid (Le w2 g aw2) := hS2
  have HB2 : Hid (Below g w w2) := HB1.out.trans (below_of_grown hg2 (by have := HS1.out.lt; omega) HG.out)
  clear hS2 hg2 HS1 HB1
  have h1 := prefix_any g aw2 w2 HS2.out
  rw [aw_p] at h1
  go_wp2_with fail
  refine h1.mono ?_
  clear h1
  rintro e w3 ⟨rfl, n, rfl⟩
  have h1 := top_any g aw2 (w2.drewN n) (HS2.out.drews n)
  rw [aw_t] at h1
  go_wp2_with fail
  refine h1.mono ?_
  clear h1
  rintro e w4 ⟨rfl, n2, rfl⟩
  go_wp2
  go_ret
  exact ⟨rfl, by rw [HE.out]; exact below_drews HB2.out _⟩
end Go.Proofs.Ytfibjbjheilpfaa
