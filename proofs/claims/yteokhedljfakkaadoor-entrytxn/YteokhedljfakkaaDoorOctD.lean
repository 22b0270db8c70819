/- What a reader of package octet does: contracts. -/
import Derived.Test.YteokhedljfakkaaDoorOctC
namespace Go.Proofs.YteokhedljfakkaaDoor
open Go.RowKit

/-- a reader in memory: what is left to be read; none: it is bad -/
def Rd (w : World) (g : Nat) : Option (List Nat) → Prop
  | some bs => ∃ a n cap, w.heap[g]? = some (.cells #[.slice a n cap, .bool false] 88 (0, 0)) ∧ Row w a n bs ∧ n ≤ cap ∧ cap ≤ maxLen ∧ (a = none → cap = 0) ∧ (∀ x, a = some x → x.block < g)
  | none => w.heap[g]? = some (.cells #[.slice none 0 0, .bool true] 88 (0, 0))

/-- nothing but block g is written -/
def Only (g : Nat) (w w' : World) : Prop := w.grownBy w' (some g)
theorem Only.refl (g : Nat) (w : World) : Only g w w := ⟨rfl, rfl, rfl, Nat.le_refl _, fun _ _ _ => rfl⟩
theorem Only.trans {g : Nat} {a b c : World} (h : Only g a b) (k : Only g b c) : Only g a c :=
  ⟨k.os.trans h.os, k.tape.trans h.tape, k.output.trans h.output, Nat.le_trans h.size k.size, fun i hi hne => (k.block i (Nat.lt_of_lt_of_le hi h.size) hne).trans (h.block i hi hne)⟩
theorem Only.below {g B : Nat} {w w' : World} (h : Only g w w') (h1 : B ≤ g) (h2 : B ≤ w.heap.size) : Below B w w' :=
  ⟨h.os, h.tape, h.output, h.size, fun k hk => h.block k (by omega) (by simp; omega)⟩
theorem Only.set (g j : Nat) (w : World) (v : Value) : Only g w (w.setCell ⟨g, j, none⟩ v) :=
  ⟨rfl, rfl, rfl, by simp, fun k _ hne => Below.heap_setCell w ⟨g, j, none⟩ v k (by intro h; exact hne (by rw [h]))⟩
theorem Row.only {w wx : World} {a : Option Addr} {n g : Nat} {bs : List Nat} (hr : Row w a n bs) (ho : Only g w wx) (hg : ∀ x, a = some x → 0 < n → x.block ≠ g) : Row wx a n bs := by
  obtain ⟨hn, hx, hm, hr⟩ := hr
  refine ⟨hn, hx, hm, ?_⟩
  rcases hr with h | ⟨b, off, h, hc⟩
  · exact .inl h
  · exact .inr ⟨b, off, h, fun i hi => World.grownBy.cell ho (hc i hi) (by have := hg _ h (by omega); simpa using this)⟩
theorem Rd.lt {w : World} {g : Nat} {st : Option (List Nat)} (h : Rd w g st) : g < w.heap.size := by
  cases st with
  | none => exact (Array.getElem?_eq_some_iff.1 h).1
  | some bs => obtain ⟨a, n, cap, h, _⟩ := h; exact (Array.getElem?_eq_some_iff.1 h).1
theorem Rd.later {w wx : World} {g : Nat} {st : Option (List Nat)} (h : Rd w g st) (hb : Below w.heap.size w wx) : Rd wx g st := by
  have hlt := h.lt
  cases st with
  | none => show wx.heap[g]? = _; rw [hb.block g hlt]; exact h
  | some bs => obtain ⟨a, n, cap, h, hr, h1⟩ := h; exact ⟨a, n, cap, by rw [hb.block g hlt]; exact h, hr.later hb, h1⟩
theorem Rd.drews {w : World} {g k : Nat} {st : Option (List Nat)} (h : Rd w g st) : Rd (w.drewN k) g st := h.later (below_drewN (Below.refl _ _) _)
theorem frozen_of_heap {w : World} {g i : Nat} {cur : Array Value} {e : TypeId} (hh : w.heap[g]? = some (.cells cur e (0, 0))) : w.frozen? ⟨g, i, none⟩ = false := frozen_of_row w g i cur e hh

theorem Own.block_lt {w : World} {base n cap : Nat} {x : Addr} {bs : List Nat} (h : Own w base (.slice (some x) n cap) bs) : x.block < w.heap.size := by
  obtain ⟨⟨_, h⟩, _⟩ := h
  rcases h with ⟨h, _⟩ | ⟨g, cap', cur, h, _, hh, _⟩
  · simp at h
  · simp only [Value.slice.injEq, Option.some.injEq] at h
    rw [h.1]
    exact (Array.getElem?_eq_some_iff.1 hh).1

theorem new_any (a : Option Addr) (n cap : Nat) (bs : List Nat) (w : World) (hr : Row w a n bs) (hz : a = none → cap = 0) (hn : n ≤ 1000000) :
    Calls Tryd.prog 19 #[.slice a n cap] w fun e w' => ∃ g, e = .returned (.pointer (some ⟨g, 0, none⟩)) ∧ Rd w' g (some bs) ∧ w.heap.size ≤ g ∧ Below w.heap.size w w' := by
  go_enter Tryd.func19, Tryd.ntmps19
  go_wp2_with fail
  refine (copy_any _ _ _ 0 _ _ hr hz hn (by omega)).mono ?_
  rintro e w1 ⟨v1, rfl, ho1, hb1⟩
  obtain ⟨a1, n1, cap1, rfl, r1, hc1, hm1, hz1, hg1⟩ := ho1.slice
  go_wp2
  go_ret
  have hba : Below w1.heap.size w1 (w1.alloc (.cells #[.slice a1 n1 cap1, .bool false] 88)) := (Below.refl _ _).alloc (Nat.le_refl _) _
  refine ⟨w1.heap.size, rfl, ⟨a1, n1, cap1, ?_, r1.later hba, hc1, hm1, hz1, ?_⟩, hb1.size, hb1.trans (hba.mono hb1.size)⟩
  · show (w1.heap.push _)[w1.heap.size]? = _
    simp
  · intro x hx
    subst hx
    have := ho1.block_lt
    omega

theorem Rd.only {w wx : World} {g g' : Nat} {st : Option (List Nat)} (h : Rd w g st) (ho : Only g' w wx) (hg : g < g') : Rd wx g st := by
  have hlt := h.lt
  have hb : wx.heap[g]? = w.heap[g]? := ho.block g hlt (by simp; omega)
  cases st with
  | none => show wx.heap[g]? = _; rw [hb]; exact h
  | some bs => obtain ⟨a, n, cap, h, hr, h1, h2, h3, h4⟩ := h; exact ⟨a, n, cap, by rw [hb]; exact h, hr.only ho (fun x hx _ => by have := h4 x hx; omega), h1, h2, h3, h4⟩

theorem bad_any (g : Nat) (st : Option (List Nat)) (w : World) (h : Rd w g st) :
    Calls Tryd.prog 42 #[.pointer (some ⟨g, 0, none⟩)] w fun e w' => e = .returned (.bool st.isNone) ∧ w' = w := by
  cases st with
  | none =>
    have h : w.heap[g]? = some (.cells #[.slice none 0 0, .bool true] 88 (0, 0)) := h
    have c1 : w.cell? ⟨g, 1, none⟩ = some (.bool true) := cell_of_heap h rfl
    clear h
    go_enter Tryd.func42, Tryd.ntmps42
    go_wp2
    go_ret
    exact ⟨rfl, rfl⟩
  | some bs =>
    obtain ⟨a, n, cap, h, _⟩ := h
    have c1 : w.cell? ⟨g, 1, none⟩ = some (.bool false) := cell_of_heap h rfl
    clear h
    go_enter Tryd.func42, Tryd.ntmps42
    go_wp2
    go_ret
    exact ⟨rfl, rfl⟩

theorem spoil_any (g : Nat) (st : Option (List Nat)) (w : World) (h : Rd w g st) :
    Calls Tryd.prog 78 #[.pointer (some ⟨g, 0, none⟩)] w fun e w' => e = .returned (.tuple #[]) ∧ Rd w' g none ∧ Only g w w' := by
  obtain ⟨v0, v1, hh⟩ : ∃ v0 v1, w.heap[g]? = some (.cells #[v0, v1] 88 (0, 0)) := by
    cases st with
    | none => exact ⟨_, _, h⟩
    | some bs => obtain ⟨a, n, cap, h, _⟩ := h; exact ⟨_, _, h⟩
  have c0 : w.cell? ⟨g, 0, none⟩ = some v0 := cell_of_heap hh rfl
  have c1 : w.cell? ⟨g, 1, none⟩ = some v1 := cell_of_heap hh rfl
  have f0 : w.frozen? ⟨g, 0, none⟩ = false := frozen_of_heap hh
  have f1 : w.frozen? ⟨g, 1, none⟩ = false := frozen_of_heap hh
  have HH : Hid (_ = _) := hh
  clear hh h
  go_enter Tryd.func78, Tryd.ntmps78
  go_wp2
  go_end0
  refine ⟨rfl, ?_, (Only.set _ _ _ _).trans (Only.set _ _ _ _)⟩
  have h1 := heap_setCell_same w g 0 _ 88 (.slice none 0 0) HH.out
  have h2 := heap_setCell_same _ g 1 _ 88 (.bool true) h1
  exact h2

theorem Row.behind {w : World} {a : Option Addr} {m : Nat} {bs : List Nat} (hr : Row w a m bs) (n : Nat) (h : n ≤ m) : Row w (a.map (fun x => x.add n)) (m - n) (bs.drop n) := by
  rcases hr.2.2.2 with h0 | ⟨b, off, rfl, hc⟩
  · subst h0
    have h1 := hr.1
    simp at h1
    subst h1
    simp
    exact Row.empty
  · simp only [Option.map_some, Addr.add_lit]
    exact hr.drop n h
theorem add_block (x : Addr) (n : Nat) : (x.add n).block = x.block := by
  unfold Addr.add
  split <;> rfl
theorem Rd.moved {w : World} {g m cap : Nat} {a a' : Option Addr} {cs : List Nat} (hh : w.heap[g]? = some (.cells #[.slice a m cap, .bool false] 88 (0, 0))) (n' cap' : Nat) (hr : Row w a' n' cs) (hc : n' ≤ cap') (hm : cap' ≤ maxLen) (hz : a' = none → cap' = 0) (hg : ∀ x, a' = some x → x.block < g) :
    Rd (w.setCell ⟨g, 0, none⟩ (.slice a' n' cap')) g (some cs) :=
  ⟨a', n', cap', heap_setCell_same w g 0 _ 88 _ hh, hr.only (Only.set g 0 w _) (fun x hx _ => Nat.ne_of_lt (hg x hx)), hc, hm, hz, hg⟩

theorem take_any (g n : Nat) (bs : List Nat) (w : World) (h : Rd w g (some bs)) (hn : n ≤ bs.length) :
    Calls Tryd.prog 79 #[.pointer (some ⟨g, 0, none⟩), .int .i64 n] w fun e w' => (∃ a, e = .returned (.slice a n n) ∧ Row w' a n (bs.take n) ∧ (a = none → n = 0)) ∧ Rd w' g (some (bs.drop n)) ∧ Only g w w' := by
  have hbad := bad_any g _ w h
  obtain ⟨a, m, cap, hh, hr, hc, hm, hz, hg⟩ := h
  have c0 : w.cell? ⟨g, 0, none⟩ = some (.slice a m cap) := cell_of_heap hh rfl
  have f0 : w.frozen? ⟨g, 0, none⟩ = false := frozen_of_heap hh
  have HH : Hid (_ = _) := hh
  have hlen := hr.1
  have hnc : (n : Int) ≤ (cap : Int) := by omega
  have hnm : (n : Int) ≤ (m : Int) := by omega
  clear hh
  go_enter Tryd.func79, Tryd.ntmps79
  go_wp2_with fail
  refine hbad.mono ?_
  rintro e w' ⟨rfl, hw⟩
  subst w'
  go_wp2
  · go_ret
    have hcap : cap = n := by assumption
    have hnc2 : m - n = 0 := by omega
    have hd : bs.drop n = [] := List.drop_eq_nil_of_le (by omega)
    rw [hnc2, hd]
    refine ⟨⟨a, rfl, (hr.take n (by omega)).only (Only.set _ _ _ _) (fun x hx _ => Nat.ne_of_lt (hg x hx)), fun h => by have := hz h; omega⟩, ?_, Only.set _ _ _ _⟩
    exact Rd.moved HH.out 0 _ Row.empty (by omega) (by omega) (fun h => by have := hz h; omega) hg
  · go_ret
    refine ⟨⟨a, rfl, (hr.take n (by omega)).only (Only.set _ _ _ _) (fun x hx _ => Nat.ne_of_lt (hg x hx)), fun h => by have := hz h; omega⟩, ?_, Only.set _ _ _ _⟩
    refine Rd.moved HH.out _ _ (hr.behind n (by omega)) (by omega) (by omega) (fun h => ?_) (fun x hx => ?_)
    · simp at h; have := hz h; omega
    · simp at hx
      obtain ⟨y, hy, rfl⟩ := hx
      rw [add_block]
      exact hg y hy

theorem Rd.same {w : World} {g : Nat} {st : Option (List Nat)} (h : Rd w g st) : Rd w g st ∧ Only g w w := ⟨h, Only.refl _ _⟩

set_option maxRecDepth 100000 in
set_option maxHeartbeats 1000000 in
theorem atMost_any (g most : Nat) (st : Option (List Nat)) (w : World) (h : Rd w g st) :
    Calls Tryd.prog 76 #[.pointer (some ⟨g, 0, none⟩), .int .u64 most] w fun e w' => e = .returned (.int .u64 ((Oct.atMost most st).1 : Nat)) ∧ Rd w' g (Oct.atMost most st).2 ∧ Only g w w' := by
  have hbad := bad_any g _ w h
  cases st with
  | none =>
    go_enter Tryd.func76, Tryd.ntmps76
    go_wp2_with fail
    refine hbad.mono ?_
    rintro e w' ⟨rfl, hw⟩
    subst w'
    go_wp2
    go_ret
    exact ⟨rfl, h, Only.refl _ _⟩
  | some bs =>
    have hd := h
    obtain ⟨a, m, cap, hh, hr, hc, hm, hz, hg⟩ := hd
    have c0 : w.cell? ⟨g, 0, none⟩ = some (.slice a m cap) := cell_of_heap hh rfl
    clear hh hm
    have hlen := hr.1
    have hnum := number_any a m cap bs w hr
    have hown := Oct.num_is bs hr.2.1
    have hbd := Oct.atMost_bad most bs
    have hgd := Oct.atMost_good most bs
    generalize Oct.num 0 0 bs = R at hnum hown hbd hgd
    obtain ⟨q, k⟩ := R
    simp only at hnum hown hbd hgd
    by_cases hk : k = 0
    · subst hk
      rw [hbd (.inl rfl)]
      clear hbd hgd hown
      go_enter Tryd.func76, Tryd.ntmps76
      go_wp2_with fail
      refine hbad.mono ?_
      rintro e w' ⟨rfl, hw⟩
      subst w'
      go_wp2_with fail
      refine hnum.mono ?_
      rintro e w' ⟨rfl, hw⟩
      subst w'
      go_wp2_with fail
      refine (spoil_any g _ w h).mono ?_
      rintro e w2 ⟨rfl, h2, h3⟩
      go_wp2
      go_ret
      exact ⟨rfl, h2, h3⟩
    · obtain ⟨hq64, hkl, _⟩ := hown hk
      have hk0 : ((k : Int) == 0) = false := by simp; omega
      by_cases hq : most < q
      · rw [hbd (.inr hq)]
        clear hbd hgd hown
        have hqi : (most : Int) < (q : Int) := by omega
        go_enter Tryd.func76, Tryd.ntmps76
        go_wp2_with fail
        refine hbad.mono ?_
        rintro e w' ⟨rfl, hw⟩
        subst w'
        go_wp2_with fail
        refine hnum.mono ?_
        rintro e w' ⟨rfl, hw⟩
        subst w'
        go_wp2_with fail
        refine (spoil_any g _ w h).mono ?_
        rintro e w2 ⟨rfl, h2, h3⟩
        go_wp2
        go_ret
        exact ⟨rfl, h2, h3⟩
      · rw [hgd (by omega)]
        clear hbd hgd hown
        have hqi : ¬ (most : Int) < (q : Int) := by omega
        go_enter Tryd.func76, Tryd.ntmps76
        go_wp2_with fail
        refine hbad.mono ?_
        rintro e w' ⟨rfl, hw⟩
        subst w'
        go_wp2_with fail
        refine hnum.mono ?_
        rintro e w' ⟨rfl, hw⟩
        subst w'
        go_wp2_with fail
        refine (take_any g k bs w h hkl).mono ?_
        rintro e w2 ⟨⟨a2, rfl, _⟩, h2, h3⟩
        go_wp2
        go_ret
        exact ⟨rfl, h2, h3⟩

theorem n_any (g : Nat) (st : Option (List Nat)) (w : World) (h : Rd w g st) :
    Calls Tryd.prog 66 #[.pointer (some ⟨g, 0, none⟩)] w fun e w' => e = .returned (.int .u64 ((Oct.atMost 18446744073709551615 st).1 : Nat)) ∧ Rd w' g (Oct.atMost 18446744073709551615 st).2 ∧ Only g w w' := by
  have hc := atMost_any g 18446744073709551615 st w h
  generalize Oct.atMost 18446744073709551615 st = R at hc ⊢
  go_enter Tryd.func66, Tryd.ntmps66
  go_wp2_with fail
  refine hc.mono ?_
  rintro e w' ⟨rfl, h2, h3⟩
  go_wp2
  go_ret
  exact ⟨rfl, h2, h3⟩

theorem left_any (g : Nat) (st : Option (List Nat)) (w : World) (h : Rd w g st) :
    Calls Tryd.prog 22 #[.pointer (some ⟨g, 0, none⟩)] w fun e w' => e = .returned (.int .i64 ((st.getD []).length : Nat)) ∧ w' = w := by
  have hbad := bad_any g _ w h
  cases st with
  | none =>
    go_enter Tryd.func22, Tryd.ntmps22
    go_wp2_with fail
    refine hbad.mono ?_
    rintro e w' ⟨rfl, hw⟩
    subst w'
    go_wp2
    go_ret
    exact ⟨rfl, rfl⟩
  | some bs =>
    obtain ⟨a, m, cap, hh, hr, hc, hm, hz, hg⟩ := h
    have c0 : w.cell? ⟨g, 0, none⟩ = some (.slice a m cap) := cell_of_heap hh rfl
    have hlen := hr.1
    clear hh
    go_enter Tryd.func22, Tryd.ntmps22
    go_wp2_with fail
    refine hbad.mono ?_
    rintro e w' ⟨rfl, hw⟩
    subst w'
    go_wp2
    go_ret
    exact ⟨by subst hlen; rfl, rfl⟩

end Go.Proofs.YteokhedljfakkaaDoor
