/- Who holds what: contracts of the program's questions. -/
import Derived.Test.YtbhohedkgeokgaaLkA
namespace Go.Proofs.Ytbhohedkgeokgaa
open Go.RowKit
set_option linter.unusedVariables false
set_option linter.unusedSimpArgs false

def busyP (key : ByteArray) (wri : Bool) (s : Spn) : Bool := inK key s.wr || (wri && inK key s.rd)
def idP (id : Id) (s : Spn) : Bool := decide (s.id = id)
/-- the place of the first such one, -1 for none -/
def Idx (p : Spn → Bool) (l : List Spn) (i : Int) : Prop := (l.any p = false ∧ i = -1) ∨ ∃ k s, i = (k : Nat) ∧ l[k]? = some s ∧ p s = true ∧ ∀ j x, j < k → l[j]? = some x → p x = false
theorem Idx.nonneg {p : Spn → Bool} {l : List Spn} {i : Int} (h : Idx p l i) : decide (0 ≤ i) = l.any p := by
  rcases h with ⟨h1, rfl⟩ | ⟨k, s, rfl, h1, h2, h3⟩
  · rw [h1]; rfl
  · have : l.any p = true := List.any_eq_true.2 ⟨s, List.mem_of_getElem? h1, h2⟩
    rw [this]
    simp

set_option maxRecDepth 100000 in
theorem busy_clo (pk pw : Nat) (s : Spn) (key : ByteArray) (wri : Bool) (w : World) (h1 : SR w s.rv s.rd) (h2 : SR w s.wv s.wr) (hk : w.cell? ⟨pk, 0, none⟩ = some (.string key)) (hw : w.cell? ⟨pw, 0, none⟩ = some (.bool wri)) :
    Calls Try.prog 25 (#[s.value] ++ #[.pointer (some ⟨pk, 0, none⟩), .pointer (some ⟨pw, 0, none⟩)]) w fun e w' => e = .returned (.bool (busyP key wri s)) ∧ Below w.heap.size w w' := by
  unfold busyP
  obtain ⟨id, at_, till, rd, wr, rv, wv⟩ := s
  simp only at h1 h2
  obtain ⟨ra, rc, rfl, -⟩ := h1.slice
  obtain ⟨wa, wc, rfl, -⟩ := h2.slice
  have hb : Below w.heap.size w (w.alloc (.cells #[.int .i64 id.1, .int .u64 id.2, .int .i64 at_, .int .i64 till, .slice ra rd.length rc, .slice wa wr.length wc] 58)) := (Below.refl _ _).alloc (Nat.le_refl _) _
  have hk2 := cell_later hb hk
  have hw2 := cell_later hb hw
  have c1 := contains_any _ wr key _ (h2.later hb)
  have c2 := contains_any _ rd key _ (h1.later hb)
  have HB : Hid (Below w.heap.size w (w.alloc (.cells #[.int .i64 id.1, .int .u64 id.2, .int .i64 at_, .int .i64 till, .slice ra rd.length rc, .slice wa wr.length wc] 58))) := hb
  clear h1 h2 hk hw hb
  by_cases hm : key ∈ wr
  · go_enter Try.func25, Try.ntmps25
    go_wp2_with fail
    refine c1.mono ?_
    rintro e w1 ⟨rfl, hw1⟩
    subst w1
    clear c1 c2
    simp only [inK_true hm]
    go_wp2
    go_ret
    exact ⟨by simp [hm, inK_true, inK_false], HB.out⟩
  · cases wri
    · go_enter Try.func25, Try.ntmps25
      go_wp2_with fail
      refine c1.mono ?_
      rintro e w1 ⟨rfl, hw1⟩
      subst w1
      clear c1 c2
      simp only [inK_false hm]
      go_wp2
      go_ret
      exact ⟨by simp [hm, inK_true, inK_false], HB.out⟩
    · go_enter Try.func25, Try.ntmps25
      go_wp2_with fail
      refine c1.mono ?_
      rintro e w1 ⟨rfl, hw1⟩
      subst w1
      clear c1
      simp only [inK_false hm]
      go_wp2_with fail
      refine c2.mono ?_
      rintro e w1 ⟨rfl, hw1⟩
      subst w1
      clear c2
      cases hd : inK key rd
      · go_wp2
        go_ret
        exact ⟨by simp [inK_false hm, hd], HB.out⟩
      · go_wp2
        go_ret
        exact ⟨by simp [inK_false hm, hd], HB.out⟩

set_option maxRecDepth 100000 in
theorem place_clo (pk : Nat) (s : Spn) (id : Id) (w : World) (h1 : SR w s.rv s.rd) (h2 : SR w s.wv s.wr) (hk : w.cell? ⟨pk, 0, none⟩ = some (.int .i64 id.1)) (hw : w.cell? ⟨pk, 1, none⟩ = some (.int .u64 id.2)) :
    Calls Try.prog 35 (#[s.value] ++ #[.pointer (some ⟨pk, 0, none⟩)]) w fun e w' => e = .returned (.bool (idP id s)) ∧ Below w.heap.size w w' := by
  unfold idP
  obtain ⟨x, at_, till, rd, wr, rv, wv⟩ := s
  simp only at h1 h2
  obtain ⟨ra, rc, rfl, -⟩ := h1.slice
  obtain ⟨wa, wc, rfl, -⟩ := h2.slice
  have hb : Below w.heap.size w (w.alloc (.cells #[.int .i64 x.1, .int .u64 x.2, .int .i64 at_, .int .i64 till, .slice ra rd.length rc, .slice wa wr.length wc] 58)) := (Below.refl _ _).alloc (Nat.le_refl _) _
  have hk2 := cell_later hb hk
  have hw2 := cell_later hb hw
  have HB : Hid (Below w.heap.size w (w.alloc (.cells #[.int .i64 x.1, .int .u64 x.2, .int .i64 at_, .int .i64 till, .slice ra rd.length rc, .slice wa wr.length wc] 58))) := hb
  have heq := eql_31 x id
  clear h1 h2 hk hw hb
  go_enter Try.func35, Try.ntmps35
  go_wp2
  go_ret
  exact ⟨rfl, HB.out⟩

set_option maxRecDepth 100000 in
set_option maxHeartbeats 2000000 in
theorem idx_busy (pk pw : Nat) (key : ByteArray) (wri : Bool) (base : Nat) (v : Value) (l : List Spn) (w : World) (h : SpO w base v l) (hlen : l.length ≤ 1000) (hk : w.cell? ⟨pk, 0, none⟩ = some (.string key)) (hw : w.cell? ⟨pw, 0, none⟩ = some (.bool wri)) :
    Calls Try.prog 34 #[v, .func (.func 25) #[] #[.pointer (some ⟨pk, 0, none⟩), .pointer (some ⟨pw, 0, none⟩)]] w fun e w' => (∃ i : Int, e = .returned (.int .i64 i) ∧ Idx (busyP key wri) l i) ∧ Below w.heap.size w w' := by
  obtain ⟨a, c, rfl, h1, h2, h3, -⟩ := h.at
  have HS : Hid (SpO w base (.slice a l.length c) l) := h
  have HK0 : Hid (w.cell? ⟨pk, 0, none⟩ = some (.string key)) := hk
  have HW0 : Hid (w.cell? ⟨pw, 0, none⟩ = some (.bool wri)) := hw
  clear h hk hw
  go_enter Try.func34, Try.ntmps34
  go_wp2
  go_loopw [8] (fun t wr => ∃ k : Nat, t = .int .i64 (k : Nat) ∧ k ≤ l.length ∧ Hid (∀ j x, j < k → l[j]? = some x → busyP key wri x = false) ∧ Hid (Below w.heap.size w wr)) (fun t _ => l.length - (intOf t).toNat)
  case atStart => exact ⟨0, rfl, by omega, fun i x hi => by omega, Below.refl _ _⟩
  case round =>
    obtain ⟨k, rfl, hk, HK, HB⟩ := hrel
    by_cases hlt : k < l.length
    · obtain ⟨a', c', e, -, -, -, h5⟩ := (HS.out.later HB.out).at
      simp only [Value.slice.injEq, true_and] at e
      obtain ⟨rfl, rfl⟩ := e
      obtain ⟨b, off, rfl, hc⟩ := h5 (by omega)
      have hs : l[k]? = some l[k] := List.getElem?_eq_getElem hlt
      generalize l[k] = s at hs
      obtain ⟨ra, rc, wa, wc, e1, e2, k1, k2, c0, c1, c2, c3, c4, c5⟩ := hc k s hs
      have HSS : Hid (l[k]? = some s) := hs
      clear hc h5 hs
      obtain ⟨x, at_, till, rd, wl, rv, wv⟩ := s
      simp only at e1 e2
      subst e1 e2
      have cl := busy_clo pk pw ⟨x, at_, till, rd, wl, .slice ra rd.length rc, .slice wa wl.length wc⟩ key wri wr k1 k2 (cell_later HB.out HK0.out) (cell_later HB.out HW0.out)
      clear k1 k2
      go_wp2_with fail
      refine cl.mono ?_
      rintro e w1 ⟨rfl, hb⟩
      have HB2 : Hid (Below w.heap.size w w1) := HB.out.trans (hb.mono HB.out.size)
      clear cl hb c0 c1 c2 c3 c4 c5
      cases hp : busyP key wri ⟨x, at_, till, rd, wl, .slice ra rd.length rc, .slice wa wl.length wc⟩
      · have HK2 : Hid (∀ j y, j < k + 1 → l[j]? = some y → busyP key wri y = false) := fun j y hj hy => by
          by_cases e : j = k
          · rw [e, HSS.out] at hy; simp only [Option.some.injEq] at hy; rw [← hy]; exact hp
          · exact HK.out j y (by omega) hy
        clear hp
        go_wp2
        go_roundw
        case rel => exact ⟨k + 1, by go_num, by omega, HK2, HB2⟩
        case measure => simp [intOf]; omega
      · have HP : Hid (busyP key wri ⟨x, at_, till, rd, wl, .slice ra rd.length rc, .slice wa wl.length wc⟩ = true) := hp
        clear hp
        go_wp2
        go_ret
        exact ⟨⟨_, rfl, .inr ⟨k, _, rfl, HSS.out, HP.out, HK.out⟩⟩, HB2.out⟩
    · have HE : Hid (l.any (busyP key wri) = false) := by
        show l.any (busyP key wri) = false
        rw [List.any_eq_false]
        intro x hx hc
        obtain ⟨i, hi⟩ := List.getElem?_of_mem hx
        have := HK.out i x (by have := (List.getElem?_eq_some_iff.1 hi).1; omega) hi
        rw [this] at hc
        cases hc
      go_wp2
      go_ret
      exact ⟨⟨_, rfl, .inl ⟨HE.out, rfl⟩⟩, HB.out⟩

set_option maxRecDepth 100000 in
set_option maxHeartbeats 2000000 in
theorem idx_place (pk : Nat) (id : Id) (base : Nat) (v : Value) (l : List Spn) (w : World) (h : SpO w base v l) (hlen : l.length ≤ 1000) (hk : w.cell? ⟨pk, 0, none⟩ = some (.int .i64 id.1)) (hw : w.cell? ⟨pk, 1, none⟩ = some (.int .u64 id.2)) :
    Calls Try.prog 34 #[v, .func (.func 35) #[] #[.pointer (some ⟨pk, 0, none⟩)]] w fun e w' => (∃ i : Int, e = .returned (.int .i64 i) ∧ Idx (idP id) l i) ∧ Below w.heap.size w w' := by
  obtain ⟨a, c, rfl, h1, h2, h3, -⟩ := h.at
  have HS : Hid (SpO w base (.slice a l.length c) l) := h
  have HK0 : Hid (w.cell? ⟨pk, 0, none⟩ = some (.int .i64 id.1)) := hk
  have HW0 : Hid (w.cell? ⟨pk, 1, none⟩ = some (.int .u64 id.2)) := hw
  clear h hk hw
  go_enter Try.func34, Try.ntmps34
  go_wp2
  go_loopw [8] (fun t wr => ∃ k : Nat, t = .int .i64 (k : Nat) ∧ k ≤ l.length ∧ Hid (∀ j x, j < k → l[j]? = some x → idP id x = false) ∧ Hid (Below w.heap.size w wr)) (fun t _ => l.length - (intOf t).toNat)
  case atStart => exact ⟨0, rfl, by omega, fun i x hi => by omega, Below.refl _ _⟩
  case round =>
    obtain ⟨k, rfl, hk, HK, HB⟩ := hrel
    by_cases hlt : k < l.length
    · obtain ⟨a', c', e, -, -, -, h5⟩ := (HS.out.later HB.out).at
      simp only [Value.slice.injEq, true_and] at e
      obtain ⟨rfl, rfl⟩ := e
      obtain ⟨b, off, rfl, hc⟩ := h5 (by omega)
      have hs : l[k]? = some l[k] := List.getElem?_eq_getElem hlt
      generalize l[k] = s at hs
      obtain ⟨ra, rc, wa, wc, e1, e2, k1, k2, c0, c1, c2, c3, c4, c5⟩ := hc k s hs
      have HSS : Hid (l[k]? = some s) := hs
      clear hc h5 hs
      obtain ⟨x, at_, till, rd, wl, rv, wv⟩ := s
      simp only at e1 e2
      subst e1 e2
      have cl := place_clo pk ⟨x, at_, till, rd, wl, .slice ra rd.length rc, .slice wa wl.length wc⟩ id wr k1 k2 (cell_later HB.out HK0.out) (cell_later HB.out HW0.out)
      clear k1 k2
      go_wp2_with fail
      refine cl.mono ?_
      rintro e w1 ⟨rfl, hb⟩
      have HB2 : Hid (Below w.heap.size w w1) := HB.out.trans (hb.mono HB.out.size)
      clear cl hb c0 c1 c2 c3 c4 c5
      cases hp : idP id ⟨x, at_, till, rd, wl, .slice ra rd.length rc, .slice wa wl.length wc⟩
      · have HK2 : Hid (∀ j y, j < k + 1 → l[j]? = some y → idP id y = false) := fun j y hj hy => by
          by_cases e : j = k
          · rw [e, HSS.out] at hy; simp only [Option.some.injEq] at hy; rw [← hy]; exact hp
          · exact HK.out j y (by omega) hy
        clear hp
        go_wp2
        go_roundw
        case rel => exact ⟨k + 1, by go_num, by omega, HK2, HB2⟩
        case measure => simp [intOf]; omega
      · have HP : Hid (idP id ⟨x, at_, till, rd, wl, .slice ra rd.length rc, .slice wa wl.length wc⟩ = true) := hp
        clear hp
        go_wp2
        go_ret
        exact ⟨⟨_, rfl, .inr ⟨k, _, rfl, HSS.out, HP.out, HK.out⟩⟩, HB2.out⟩
    · have HE : Hid (l.any (idP id) = false) := by
        show l.any (idP id) = false
        rw [List.any_eq_false]
        intro x hx hc
        obtain ⟨i, hi⟩ := List.getElem?_of_mem hx
        have := HK.out i x (by have := (List.getElem?_eq_some_iff.1 hi).1; omega) hi
        rw [this] at hc
        cases hc
      go_wp2
      go_ret
      exact ⟨⟨_, rfl, .inl ⟨HE.out, rfl⟩⟩, HB.out⟩
end Go.Proofs.Ytbhohedkgeokgaa
