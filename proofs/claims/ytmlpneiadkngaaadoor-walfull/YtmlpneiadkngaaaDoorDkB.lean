/- What the functions of package disk do: contracts. -/
import Derived.Test.YtmlpneiadkngaaaDoorDkA
namespace Go.Proofs.YtmlpneiadkngaaaDoor
open Go.RowKit

theorem frozen_heap {w : World} {g i : Nat} {cur : Array Value} {e : TypeId} (hh : w.heap[g]? = some (.cells cur e (0, 0))) : w.frozen? ⟨g, i, none⟩ = false := frozen_of_row w g i cur e hh

theorem Frm.one (g j : Nat) (w : World) (v : Value) : Frm (fun x => x = g) w (w.setCell ⟨g, j, none⟩ v) := Frm.set g j w v _ rfl

theorem Dk.mk' {w w' : World} {S : Nat → Prop} {g : Nat} {d : DS} {a0 a1 : Option Addr} {n0 c0 n1 c1 : Nat}
    (hh : w'.heap[g]? = some (.cells #[.int .i64 (d.room : Nat), .slice a0 n0 c0, .int .i64 (d.s0 : Nat), .slice a1 n1 c1, .int .i64 (d.s1 : Nat), .bool d.lost, .bool d.left.isSome, .int .i64 (d.left.getD 0 : Nat)] 50 (0, 0)))
    (hf : Frm (· = g) w w') (h1 : Own w 0 (.slice a0 n0 c0) d.b0) (h2 : Own w 0 (.slice a1 n1 c1) d.b1) (h3 : S g)
    (h4 : ∀ k, (Value.slice a0 n0 c0).ownBlock = some k → S k ∧ k ≠ g) (h5 : ∀ k, (Value.slice a1 n1 c1).ownBlock = some k → S k ∧ k ≠ g)
    (h6 : ∀ k, (Value.slice a0 n0 c0).ownBlock = some k → (Value.slice a1 n1 c1).ownBlock ≠ some k) (h7 : d.ok) : Dk w' S g d :=
  ⟨a0, n0, c0, a1, n1, c1, hh, h1.fr hf (fun k hk => (h4 k hk).2), h2.fr hf (fun k hk => (h5 k hk).2), h3, h4, h5, h6, h7⟩

theorem check_nil (k : Int) (w : World) : Calls Tryd.prog 20 #[.pointer none, .int .i64 k] w fun e w' => e = .returned (.int .i64 2) ∧ w' = w := by
  go_enter Tryd.func20, Tryd.ntmps20
  go_wp2
  go_ret
  exact ⟨rfl, rfl⟩
theorem check_any (g : Nat) (k : Int) (w : World) : Calls Tryd.prog 20 #[.pointer (some ⟨g, 0, none⟩), .int .i64 k] w fun e w' => e = .returned (.int .i64 (if k = 0 ∨ k = 1 then 0 else 1 : Nat)) ∧ w' = w := by
  by_cases h : k = 0 ∨ k = 1
  · rw [if_pos h]
    rcases h with rfl | rfl
    · go_enter Tryd.func20, Tryd.ntmps20
      go_wp2
      go_ret
      exact ⟨rfl, rfl⟩
    · go_enter Tryd.func20, Tryd.ntmps20
      go_wp2
      go_ret
      exact ⟨rfl, rfl⟩
  · rw [if_neg h]
    by_cases hk : k < 0
    · go_enter Tryd.func20, Tryd.ntmps20
      go_wp2
      go_ret
      exact ⟨rfl, rfl⟩
    · have hk2 : 2 ≤ k := by omega
      go_enter Tryd.func20, Tryd.ntmps20
      go_wp2
      go_ret
      exact ⟨rfl, rfl⟩

theorem dwrite_any (g : Nat) (S : Nat → Prop) (d : DS) (w : World) (h : Dk w S g d) :
    Calls Tryd.prog 22 #[.pointer (some ⟨g, 0, none⟩)] w fun e w' => e = .returned (.int .i64 (d.write.1 : Nat)) ∧ Dk w' S g d.write.2 ∧ Frm (· = g) w w' := by
  have hok := DS.write_ok h.good
  have hle := h.good.left
  obtain ⟨a0, n0, c0, a1, n1, c1, hh, h1, h2, h3, h4, h5, h6, h7⟩ := h
  have e2 : w.cell? ⟨g, 5, none⟩ = some (.bool d.lost) := cell_of_heap hh rfl
  have e3 : w.cell? ⟨g, 6, none⟩ = some (.bool d.left.isSome) := cell_of_heap hh rfl
  have e4 : w.cell? ⟨g, 7, none⟩ = some (.int .i64 (d.left.getD 0 : Nat)) := cell_of_heap hh rfl
  have f2 : w.frozen? ⟨g, 5, none⟩ = false := frozen_heap hh
  have f4 : w.frozen? ⟨g, 7, none⟩ = false := frozen_heap hh
  have HH : Hid (_ = _) := hh
  clear hh
  obtain ⟨room, b0, s0, b1, s1, lost, left⟩ := d
  dsimp only at *
  cases lost with
  | true =>
    rcases left with _ | _ | n
    · go_enter Tryd.func22, Tryd.ntmps22
      go_wp2
      go_ret
      exact ⟨rfl, ⟨a0, n0, c0, a1, n1, c1, HH.out, h1, h2, h3, h4, h5, h6, h7⟩, Frm.refl _ _⟩
    · go_enter Tryd.func22, Tryd.ntmps22
      go_wp2
      go_ret
      exact ⟨rfl, Dk.mk' (heap_setCell_same w g 5 _ 50 _ HH.out) (Frm.one _ _ _ _) h1 h2 h3 h4 h5 h6 h7, Frm.one _ _ _ _⟩
    · go_enter Tryd.func22, Tryd.ntmps22
      go_wp2
      go_ret
      exact ⟨rfl, ⟨a0, n0, c0, a1, n1, c1, HH.out, h1, h2, h3, h4, h5, h6, h7⟩, Frm.refl _ _⟩
  | false =>
    rcases left with _ | _ | n
    · go_enter Tryd.func22, Tryd.ntmps22
      go_wp2
      go_ret
      exact ⟨rfl, ⟨a0, n0, c0, a1, n1, c1, HH.out, h1, h2, h3, h4, h5, h6, h7⟩, Frm.refl _ _⟩
    · go_enter Tryd.func22, Tryd.ntmps22
      go_wp2
      go_ret
      exact ⟨rfl, Dk.mk' (heap_setCell_same w g 5 _ 50 _ HH.out) (Frm.one _ _ _ _) h1 h2 h3 h4 h5 h6 hok, Frm.one _ _ _ _⟩
    · have hn2 : n + 1 ≤ 9223372036854775807 := hle
      go_enter Tryd.func22, Tryd.ntmps22
      go_wp2
      go_ret
      exact ⟨rfl, Dk.mk' (heap_setCell_same w g 7 _ 50 _ HH.out) (Frm.one _ _ _ _) h1 h2 h3 h4 h5 h6 hok, Frm.one _ _ _ _⟩

theorem dlost_any (g : Nat) (S : Nat → Prop) (d : DS) (w : World) (h : Dk w S g d) :
    Calls Tryd.prog 66 #[.pointer (some ⟨g, 0, none⟩)] w fun e w' => e = .returned (.bool d.lost) ∧ w' = w := by
  obtain ⟨a0, n0, c0, a1, n1, c1, hh, _⟩ := h
  have e2 : w.cell? ⟨g, 5, none⟩ = some (.bool d.lost) := cell_of_heap hh rfl
  clear hh
  go_enter Tryd.func66, Tryd.ntmps66
  go_wp2
  go_ret
  exact ⟨rfl, rfl⟩
theorem dlost_nil (w : World) : Calls Tryd.prog 66 #[.pointer none] w fun e w' => e = .returned (.bool false) ∧ w' = w := by
  go_enter Tryd.func66, Tryd.ntmps66
  go_wp2
  go_ret
  exact ⟨rfl, rfl⟩

theorem dsure_any (g : Nat) (S : Nat → Prop) (d : DS) (k : Int) (w : World) (h : Dk w S g d) :
    Calls Tryd.prog 12 #[.pointer (some ⟨g, 0, none⟩), .int .i64 k] w fun e w' => e = .returned (.int .i64 (d.sureOf k : Nat)) ∧ w' = w := by
  obtain ⟨a0, n0, c0, a1, n1, c1, hh, _⟩ := h
  have e0 : w.cell? ⟨g, 2, none⟩ = some (.int .i64 (d.s0 : Nat)) := cell_of_heap hh rfl
  have e1 : w.cell? ⟨g, 4, none⟩ = some (.int .i64 (d.s1 : Nat)) := cell_of_heap hh rfl
  clear hh
  by_cases hk : k = 0 ∨ k = 1
  · have hc := check_any g k w
    rw [if_pos hk] at hc
    rcases hk with rfl | rfl
    · go_enter Tryd.func12, Tryd.ntmps12
      go_wp2_with fail
      refine hc.mono ?_
      rintro e w' ⟨rfl, hw⟩
      subst w'
      go_wp2
      go_ret
      exact ⟨rfl, rfl⟩
    · go_enter Tryd.func12, Tryd.ntmps12
      go_wp2_with fail
      refine hc.mono ?_
      rintro e w' ⟨rfl, hw⟩
      subst w'
      go_wp2
      go_ret
      exact ⟨rfl, rfl⟩
  · have hc := check_any g k w
    rw [if_neg hk] at hc
    have e : d.sureOf k = 0 := by unfold DS.sureOf; rw [if_pos hk]
    rw [e]
    clear e
    go_enter Tryd.func12, Tryd.ntmps12
    go_wp2_with fail
    refine hc.mono ?_
    rintro e w' ⟨rfl, hw⟩
    subst w'
    go_wp2
    go_ret
    exact ⟨rfl, rfl⟩
theorem dsure_nil (k : Int) (w : World) : Calls Tryd.prog 12 #[.pointer none, .int .i64 k] w fun e w' => e = .returned (.int .i64 0) ∧ w' = w := by
  go_enter Tryd.func12, Tryd.ntmps12
  go_wp2_with fail
  refine (check_nil k w).mono ?_
  rintro e w' ⟨rfl, hw⟩
  subst w'
  go_wp2
  go_ret
  exact ⟨rfl, rfl⟩

theorem droom_any (g : Nat) (S : Nat → Prop) (d : DS) (w : World) (h : Dk w S g d) :
    Calls Tryd.prog 21 #[.pointer (some ⟨g, 0, none⟩)] w fun e w' => e = .returned (.int .i64 (d.free : Nat)) ∧ ∃ k, w' = w.drewN k := by
  obtain ⟨a0, n0, c0, a1, n1, c1, hh, h1, h2, _, _, _, _, hok⟩ := h
  have e0 : w.cell? ⟨g, 0, none⟩ = some (.int .i64 (d.room : Nat)) := cell_of_heap hh rfl
  have e1 : w.cell? ⟨g, 1, none⟩ = some (.slice a0 n0 c0) := cell_of_heap hh rfl
  have e2 : w.cell? ⟨g, 3, none⟩ = some (.slice a1 n1 c1) := cell_of_heap hh rfl
  have l0 := h1.row.1
  have l1 := h2.row.1
  have r0 := hok.room
  have r1 := hok.sum
  have hfree : (d.free : Int) = (d.room : Int) - (n0 : Int) - (n1 : Int) := by unfold DS.free; omega
  have HF : Hid (_ = _) := hfree
  rw [l0, l1] at r1
  clear hh h1 h2 hok l0 l1 hfree
  go_enter Tryd.func21, Tryd.ntmps21
  go_wp2
  go_quiet (fail)
  go_wp2
  go_ret
  exact ⟨ret_int HF.out.symm, _, rfl⟩
theorem droom_nil (w : World) : Calls Tryd.prog 21 #[.pointer none] w fun e w' => e = .returned (.int .i64 0) ∧ w' = w := by
  go_enter Tryd.func21, Tryd.ntmps21
  go_wp2
  go_ret
  exact ⟨rfl, rfl⟩

end Go.Proofs.YtmlpneiadkngaaaDoor
