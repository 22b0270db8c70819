/- What package disk's New, Read and Crash do: contracts. -/
import Derived.Test.YtmlpneiadkngaaaDoorDkD
namespace Go.Proofs.YtmlpneiadkngaaaDoor
open Go.RowKit

theorem dnew_any (n : Int) (w : World) (S : Nat → Prop) (hS : ∀ k, w.heap.size ≤ k → S k) :
    Calls Tryd.prog 6 #[.int .i64 n] w fun e w' => e = .returned (.pointer (some ⟨w.heap.size, 0, none⟩)) ∧ Dk w' S w.heap.size (DS.new (min n.toNat 1048576)) ∧ Below w.heap.size w w' := by
  obtain ⟨R, hR⟩ : ∃ R, R = min n.toNat 1048576 := ⟨_, rfl⟩
  rw [← hR]
  have hok := DS.new_ok R (by omega)
  have fin : ∀ x : Int, x = (R : Int) → Dk (w.alloc (.cells #[.int .i64 x, .slice none 0 0, .int .i64 0, .slice none 0 0, .int .i64 0, .bool false, .bool false, .int .i64 0] 50)) S w.heap.size (DS.new R) ∧ Below w.heap.size w (w.alloc (.cells #[.int .i64 x, .slice none 0 0, .int .i64 0, .slice none 0 0, .int .i64 0, .bool false, .bool false, .int .i64 0] 50)) := by
    intro x hx
    subst hx
    refine ⟨⟨none, 0, 0, none, 0, 0, ?_, Own.nil _ _, Own.nil _ _, hS _ (Nat.le_refl _), by simp [Value.ownBlock], by simp [Value.ownBlock], by simp [Value.ownBlock], hok⟩, (Below.refl _ _).alloc (Nat.le_refl _) _⟩
    show (w.heap.push _)[w.heap.size]? = _
    simp [DS.new]
  have FIN : Hid (∀ x : Int, _) := fin
  have HR : Hid (R = _) := hR
  clear fin hok hR
  by_cases h0 : n < 0
  · go_enter Tryd.func6, Tryd.ntmps6
    go_wp2
    go_ret
    exact ⟨rfl, FIN.out _ (by have := HR.out; omega)⟩
  · by_cases h1 : 1048576 < n
    · go_enter Tryd.func6, Tryd.ntmps6
      go_wp2
      go_ret
      exact ⟨rfl, FIN.out _ (by have := HR.out; omega)⟩
    · go_enter Tryd.func6, Tryd.ntmps6
      go_wp2
      go_ret
      exact ⟨rfl, FIN.out _ (by have := HR.out; omega)⟩

theorem dclone_any (a : Option Addr) (n cap : Nat) (bs : List Nat) (w : World) (hr : Row w a n bs) (hz : a = none → cap = 0) (hn : n ≤ 100000000) :
    Calls Tryd.prog 27 #[.slice a n cap] w fun e w' => ∃ v, e = .returned v ∧ Own w' w.heap.size v bs ∧ Below w.heap.size w w' := by
  have hl := hr.1
  have hnil : ∀ (w : World) (a : Option Addr) (l c : Nat), (binOp .eql 22 (.slice a l c) (.slice none 0 0)).run Tryd.prog w = .ok (.bool a.isNone) w := fun w a l c => Lib.run_eql_slice_nil w 22 5 a l c 0 0 Tryd.underlying22
  cases a with
  | none =>
    have hb : bs = [] := by
      rcases hr.2.2.2 with h1 | ⟨b, off, h1, _⟩
      · exact h1
      · cases h1
    subst hb
    obtain rfl : n = 0 := by simpa using hl.symm
    obtain rfl := hz rfl
    go_enter Tryd.func27, Tryd.ntmps27
    go_wp2
    go_ret
    exact ⟨_, rfl, Own.nil _ _, Below.refl _ _⟩
  | some x =>
    have hB : Below w.heap.size w (w.alloc (.cells #[] 5)) := (Below.refl _ _).alloc (Nat.le_refl _) _
    have ho := Own.new w w.heap.size (Nat.le_refl _) #[] [] rfl (by simp) (by simp)
    have hr2 := hr.later hB
    have hbd : ([] : List Nat).length + n ≤ 140737488355328 := by simp; omega
    go_enter Tryd.func27, Tryd.ntmps27
    go_wp2_with (at_builtin; refine wp_append_row rfl _ _ rfl w.heap.size _ _ rfl ho _ _ _ _ rfl hr2 hz hbd hB.size ?_; intro v3 w3 ho3 hb3)
    go_ret
    exact ⟨_, rfl, ho3, hB.trans hb3⟩

theorem dread_any (g : Nat) (S : Nat → Prop) (d : DS) (k : Int) (w : World) (h : Dk w S g d) :
    Calls Tryd.prog 10 #[.pointer (some ⟨g, 0, none⟩), .int .i64 k] w fun e w' => ∃ v, e = .returned (.tuple #[v, .int .i64 ((d.read k).2 : Nat)]) ∧ Own w' w.heap.size v (d.read k).1 ∧ Below w.heap.size w w' := by
  have hc := check_any g k w
  have hs := h.good.sum
  have hr := h.good.room
  unfold DS.read
  by_cases hk : k = 0 ∨ k = 1
  · rw [if_pos hk] at hc
    rw [if_neg (fun h => h hk)]
    obtain ⟨a0, n0, c0, a1, n1, c1, hh, h1, h2, h3, h4, h5, h6, h7⟩ := h
    have e5 : w.cell? ⟨g, 5, none⟩ = some (.bool d.lost) := cell_of_heap hh rfl
    cases hl : d.lost with
    | true =>
      rw [hl] at e5
      rw [if_pos rfl]
      clear hh
      go_enter Tryd.func10, Tryd.ntmps10
      go_wp2_with fail
      refine hc.mono ?_
      rintro e w' ⟨rfl, hw⟩
      subst w'
      go_wp2
      go_ret2
      exact ⟨_, rfl, Own.nil _ _, Below.refl _ _⟩
    | false =>
      rw [hl] at e5
      rw [if_neg (by simp)]
      rcases hk with rfl | rfl
      · have e1 : w.cell? ⟨g, 1, none⟩ = some (.slice a0 n0 c0) := cell_of_heap hh rfl
        obtain ⟨_, _, _, e, hrow, _, _, hz, _⟩ := h1.slice
        simp only [Value.slice.injEq] at e
        obtain ⟨rfl, rfl, rfl⟩ := e
        have hcl := dclone_any a0 n0 c0 _ w hrow hz (by have := hrow.1; omega)
        have hgk : d.get 0 = d.b0 := rfl
        rw [hgk]
        clear hh
        go_enter Tryd.func10, Tryd.ntmps10
        go_wp2_with fail
        refine hc.mono ?_
        rintro e w' ⟨rfl, hw⟩
        subst w'
        go_wp2_with fail
        refine hcl.mono ?_
        rintro e w1 ⟨v, rfl, ho, hb⟩
        go_wp2
        go_ret2
        exact ⟨v, rfl, ho, hb⟩
      · have e1 : w.cell? ⟨g, 3, none⟩ = some (.slice a1 n1 c1) := cell_of_heap hh rfl
        obtain ⟨_, _, _, e, hrow, _, _, hz, _⟩ := h2.slice
        simp only [Value.slice.injEq] at e
        obtain ⟨rfl, rfl, rfl⟩ := e
        have hcl := dclone_any a1 n1 c1 _ w hrow hz (by have := hrow.1; omega)
        have hgk : d.get 1 = d.b1 := rfl
        rw [hgk]
        clear hh
        go_enter Tryd.func10, Tryd.ntmps10
        go_wp2_with fail
        refine hc.mono ?_
        rintro e w' ⟨rfl, hw⟩
        subst w'
        go_wp2_with fail
        refine hcl.mono ?_
        rintro e w1 ⟨v, rfl, ho, hb⟩
        go_wp2
        go_ret2
        exact ⟨v, rfl, ho, hb⟩
  · rw [if_neg hk] at hc
    rw [if_pos hk]
    go_enter Tryd.func10, Tryd.ntmps10
    go_wp2_with fail
    refine hc.mono ?_
    rintro e w' ⟨rfl, hw⟩
    subst w'
    go_wp2
    go_ret2
    exact ⟨_, rfl, Own.nil _ _, Below.refl _ _⟩
theorem dread_nil (k : Int) (w : World) : Calls Tryd.prog 10 #[.pointer none, .int .i64 k] w fun e w' => e = .returned (.tuple #[.slice none 0 0, .int .i64 2]) ∧ w' = w := by
  go_enter Tryd.func10, Tryd.ntmps10
  go_wp2_with fail
  refine (check_nil k w).mono ?_
  rintro e w' ⟨rfl, hw⟩
  subst w'
  go_wp2
  go_ret2
  exact ⟨rfl, rfl⟩
theorem dcrash_nil (k0 k1 : Int) (w : World) : Calls Tryd.prog 28 #[.pointer none, .agg #[.int .u16 k0, .int .u16 k1]] w fun e w' => e = .returned (.tuple #[]) ∧ Below w.heap.size w w' := by
  go_enter Tryd.func28, Tryd.ntmps28
  go_wp2
  refine bodyPost_ret (results_none rfl _ _ _) rfl ?_
  exact ⟨rfl, (Below.refl _ _).alloc (Nat.le_refl _) _⟩
end Go.Proofs.YtmlpneiadkngaaaDoor
