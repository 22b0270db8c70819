/- What the writing functions of package disk do: contracts. -/
import Derived.Test.YtmlpneiadkngaaaDoorDkB
namespace Go.Proofs.YtmlpneiadkngaaaDoor
open Go.RowKit

theorem Own.takes {w : World} {base n cap m : Nat} {a : Option Addr} {bs : List Nat} (h : Own w base (.slice a n cap) bs) (hm : m ≤ n) : Own w base (.slice a m cap) (bs.take m) := by
  have hl := h.row.1
  obtain ⟨⟨h1, h⟩, hx⟩ := h
  rw [cellsOf_length] at h1
  refine ⟨⟨by rw [cellsOf_length, Nat.mul_one], ?_⟩, fun x hx2 => hx x (List.mem_of_mem_take hx2)⟩
  rcases h with ⟨h, h2⟩ | ⟨g, cap', cur, h, hg, hh, h2, h3, h4, h5⟩
  · left
    simp only [Value.slice.injEq] at h
    obtain ⟨rfl, rfl, rfl⟩ := h
    obtain rfl : m = 0 := by omega
    exact ⟨rfl, by simp⟩
  · right
    simp only [Value.slice.injEq] at h
    obtain ⟨rfl, h6, rfl⟩ := h
    have e : (bs.take m).length = m := by rw [List.length_take]; omega
    refine ⟨g, cap, cur, by rw [e], hg, hh, by omega, h3, h4, ?_⟩
    rw [e, Nat.mul_one]
    rw [Nat.mul_one] at h5
    have : cellsOf (bs.take m) = (cellsOf bs).take m := by simp [cellsOf]
    rw [this, ← h5, List.take_take]
    congr 1
    omega

theorem ownBlock_slice (a : Option Addr) (n c m c2 : Nat) : (Value.slice a n c).ownBlock = (Value.slice a m c2).ownBlock := by cases a <;> rfl

theorem dkeep_any (g : Nat) (S : Nat → Prop) (d : DS) (k : Int) (n : Nat) (w : World) (h : Dk w S g d) (hk : k = 0 ∨ k = 1) (hn : n ≤ (d.get k).length) :
    Calls Tryd.prog 48 #[.pointer (some ⟨g, 0, none⟩), .int .i64 k, .int .i64 n] w fun e w' => e = .returned (.int .i64 ((d.keep k n).1 : Nat)) ∧ Dk w' S g (d.keep k n).2 ∧ Frm (· = g) w w' := by
  have hok := DS.keep_ok h.good k n hn
  have hc := dwrite_any g S d w h
  have hs := DS.write_same d
  have hcode := DS.write_code d
  have hgl := DS.get_le h.good k
  unfold DS.keep at hok ⊢
  by_cases hw : d.write.1 = 0
  · rw [if_pos hw] at hok ⊢
    rw [hw] at hc
    generalize hD : d.write.2 = D at hc hs hok ⊢
    have hgk : D.get k = d.get k := by unfold DS.get; rw [hs.2.1, hs.2.2.1]
    rw [← hgk] at hok hn hgl ⊢
    clear hD hs hw hcode hgk
    rcases hk with rfl | rfl
    · go_enter Tryd.func48, Tryd.ntmps48
      go_wp2_with fail
      refine hc.mono ?_
      rintro e w1 ⟨rfl, ⟨a0, n0, c0, a1, n1, c1, hh, h1, h2, h3, h4, h5, h6, h7⟩, hf⟩
      have hl := h1.row.1
      have hle : n ≤ n0 := by have : (D.get 0).length = D.b0.length := rfl; omega
      obtain ⟨_, _, _, e, _, hcap, _⟩ := h1.slice
      simp only [Value.slice.injEq] at e
      obtain ⟨rfl, rfl, rfl⟩ := e
      have hnc : (n : Int) ≤ (c0 : Int) := by omega
      have e1 : w1.cell? ⟨g, 1, none⟩ = some (.slice a0 n0 c0) := cell_of_heap hh rfl
      have e2 : w1.cell? ⟨g, 2, none⟩ = some (.int .i64 (D.s0 : Nat)) := cell_of_heap hh rfl
      have f1 : w1.frozen? ⟨g, 1, none⟩ = false := frozen_heap hh
      have f2 : w1.frozen? ⟨g, 2, none⟩ = false := frozen_heap hh
      have HH : Hid (_ = _) := hh
      clear hh hgl hn hl
      go_wp2
      go_ret
      refine ⟨rfl, Dk.mk' (a0 := a0) (n0 := n) (c0 := c0) ?_ ((Frm.one _ _ _ _).trans (Frm.one _ _ _ _)) (h1.takes hle) h2 h3 (fun j hj => h4 j (by rw [ownBlock_slice _ _ _ n c0]; exact hj)) h5 (fun j hj => h6 j (by rw [ownBlock_slice _ _ _ n c0]; exact hj)) hok, hf.trans ((Frm.one _ _ _ _).trans (Frm.one _ _ _ _))⟩
      exact heap_setCell_same _ g 2 _ 50 _ (heap_setCell_same w1 g 1 _ 50 _ HH.out)
    · go_enter Tryd.func48, Tryd.ntmps48
      go_wp2_with fail
      refine hc.mono ?_
      rintro e w1 ⟨rfl, ⟨a0, n0, c0, a1, n1, c1, hh, h1, h2, h3, h4, h5, h6, h7⟩, hf⟩
      have hl := h2.row.1
      have hle : n ≤ n1 := by have : (D.get 1).length = D.b1.length := rfl; omega
      obtain ⟨_, _, _, e, _, hcap, _⟩ := h2.slice
      simp only [Value.slice.injEq] at e
      obtain ⟨rfl, rfl, rfl⟩ := e
      have hnc : (n : Int) ≤ (c1 : Int) := by omega
      have e1 : w1.cell? ⟨g, 3, none⟩ = some (.slice a1 n1 c1) := cell_of_heap hh rfl
      have e2 : w1.cell? ⟨g, 4, none⟩ = some (.int .i64 (D.s1 : Nat)) := cell_of_heap hh rfl
      have f1 : w1.frozen? ⟨g, 3, none⟩ = false := frozen_heap hh
      have f2 : w1.frozen? ⟨g, 4, none⟩ = false := frozen_heap hh
      have HH : Hid (_ = _) := hh
      clear hh hgl hn hl
      go_wp2
      go_ret
      refine ⟨rfl, Dk.mk' (a1 := a1) (n1 := n) (c1 := c1) ?_ ((Frm.one _ _ _ _).trans (Frm.one _ _ _ _)) h1 (h2.takes hle) h3 h4 (fun j hj => h5 j (by rw [ownBlock_slice _ _ _ n c1]; exact hj)) (fun j hj => by rw [ownBlock_slice _ _ _ n1 c1]; exact h6 j hj) hok, hf.trans ((Frm.one _ _ _ _).trans (Frm.one _ _ _ _))⟩
      exact heap_setCell_same _ g 4 _ 50 _ (heap_setCell_same w1 g 3 _ 50 _ HH.out)
  · rw [if_neg hw]
    have hw2 : d.write.1 = 12 := by omega
    rw [hw2] at hc ⊢
    go_enter Tryd.func48, Tryd.ntmps48
    go_wp2_with fail
    refine hc.mono ?_
    rintro e w1 ⟨rfl, h1, hf⟩
    go_wp2
    go_ret
    exact ⟨rfl, h1, hf⟩

theorem dsync_any (g : Nat) (S : Nat → Prop) (d : DS) (k : Int) (w : World) (h : Dk w S g d) :
    Calls Tryd.prog 33 #[.pointer (some ⟨g, 0, none⟩), .int .i64 k] w fun e w' => e = .returned (.int .i64 ((d.sync k).1 : Nat)) ∧ Dk w' S g (d.sync k).2 ∧ Frm (· = g) w w' := by
  have hc := check_any g k w
  unfold DS.sync
  by_cases hk : k = 0 ∨ k = 1
  · rw [if_pos hk] at hc
    rw [if_neg (fun h => h hk)]
    have hK := dkeep_any g S d k _ w h hk (Nat.le_refl _)
    have hcode : (d.keep k (d.get k).length).1 = 0 ∨ (d.keep k (d.get k).length).1 = 12 := by unfold DS.keep; split; · exact .inl rfl
                                                                                              · exact DS.write_code d
    generalize d.keep k (d.get k).length = R at hK hcode ⊢
    obtain ⟨r, D⟩ := R
    dsimp only at hK hcode ⊢
    obtain ⟨a0, n0, c0, a1, n1, c1, hh, h1, h2, h3, h4, h5, h6, h7⟩ := h
    rcases hk with rfl | rfl
    · have hl : (d.get 0).length = n0 := h1.row.1
      rw [hl] at hK
      have e1 : w.cell? ⟨g, 1, none⟩ = some (.slice a0 n0 c0) := cell_of_heap hh rfl
      clear hh hl
      go_enter Tryd.func33, Tryd.ntmps33
      go_wp2_with fail
      refine hc.mono ?_
      rintro e w' ⟨rfl, hw⟩
      subst w'
      go_wp2_with fail
      refine hK.mono ?_
      rintro e w1 ⟨rfl, hD, hf⟩
      go_wp2
      go_ret
      exact ⟨rfl, hD, hf⟩
    · have hl : (d.get 1).length = n1 := h2.row.1
      rw [hl] at hK
      have e1 : w.cell? ⟨g, 3, none⟩ = some (.slice a1 n1 c1) := cell_of_heap hh rfl
      clear hh hl
      go_enter Tryd.func33, Tryd.ntmps33
      go_wp2_with fail
      refine hc.mono ?_
      rintro e w' ⟨rfl, hw⟩
      subst w'
      go_wp2_with fail
      refine hK.mono ?_
      rintro e w1 ⟨rfl, hD, hf⟩
      go_wp2
      go_ret
      exact ⟨rfl, hD, hf⟩
  · rw [if_neg hk] at hc
    rw [if_pos hk]
    go_enter Tryd.func33, Tryd.ntmps33
    go_wp2_with fail
    refine hc.mono ?_
    rintro e w' ⟨rfl, hw⟩
    subst w'
    go_wp2
    go_ret
    exact ⟨rfl, h, Frm.refl _ _⟩
theorem dsync_nil (k : Int) (w : World) : Calls Tryd.prog 33 #[.pointer none, .int .i64 k] w fun e w' => e = .returned (.int .i64 2) ∧ w' = w := by
  go_enter Tryd.func33, Tryd.ntmps33
  go_wp2_with fail
  refine (check_nil k w).mono ?_
  rintro e w' ⟨rfl, hw⟩
  subst w'
  go_wp2
  go_ret
  exact ⟨rfl, rfl⟩

theorem dcut_any (g : Nat) (S : Nat → Prop) (d : DS) (k n : Int) (w : World) (h : Dk w S g d) :
    Calls Tryd.prog 51 #[.pointer (some ⟨g, 0, none⟩), .int .i64 k, .int .i64 n] w fun e w' => e = .returned (.int .i64 ((d.cut k n).1 : Nat)) ∧ Dk w' S g (d.cut k n).2 ∧ Frm (· = g) w w' := by
  have hc := check_any g k w
  unfold DS.cut
  by_cases hk : k = 0 ∨ k = 1
  · rw [if_pos hk] at hc
    by_cases hb : n < 0 ∨ (d.get k).length < n
    · rw [if_pos (.inr hb)]
      have hD := h
      obtain ⟨a0, n0, c0, a1, n1, c1, hh, h1, h2, h3, h4, h5, h6, h7⟩ := h
      by_cases h0 : n < 0
      · go_enter Tryd.func51, Tryd.ntmps51
        go_wp2_with fail
        refine hc.mono ?_
        rintro e w' ⟨rfl, hw⟩
        subst w'
        go_wp2
        go_ret
        exact ⟨rfl, hD, Frm.refl _ _⟩
      · rcases hk with rfl | rfl
        · have hl : (d.get 0).length = n0 := h1.row.1
          have hlt : (n0 : Int) < n := by omega
          have e1 : w.cell? ⟨g, 1, none⟩ = some (.slice a0 n0 c0) := cell_of_heap hh rfl
          clear hh hl hb
          go_enter Tryd.func51, Tryd.ntmps51
          go_wp2_with fail
          refine hc.mono ?_
          rintro e w' ⟨rfl, hw⟩
          subst w'
          go_wp2
          go_ret
          exact ⟨rfl, hD, Frm.refl _ _⟩
        · have hl : (d.get 1).length = n1 := h2.row.1
          have hlt : (n1 : Int) < n := by omega
          have e1 : w.cell? ⟨g, 3, none⟩ = some (.slice a1 n1 c1) := cell_of_heap hh rfl
          clear hh hl hb
          go_enter Tryd.func51, Tryd.ntmps51
          go_wp2_with fail
          refine hc.mono ?_
          rintro e w' ⟨rfl, hw⟩
          subst w'
          go_wp2
          go_ret
          exact ⟨rfl, hD, Frm.refl _ _⟩
    · rw [if_neg (by rintro (h1 | h1); exact h1 hk; exact hb h1)]
      obtain ⟨m, rfl⟩ : ∃ m : Nat, n = m := ⟨n.toNat, by omega⟩
      have hK := dkeep_any g S d k m w h hk (by omega)
      simp only [Int.toNat_natCast]
      have hle : (m : Int) ≤ (d.get k).length := by omega
      generalize d.keep k m = R at hK ⊢
      obtain ⟨r, D⟩ := R
      dsimp only at hK ⊢
      obtain ⟨a0, n0, c0, a1, n1, c1, hh, h1, h2, h3, h4, h5, h6, h7⟩ := h
      clear hb
      rcases hk with rfl | rfl
      · have hl : (d.get 0).length = n0 := h1.row.1
        rw [hl] at hle
        have e1 : w.cell? ⟨g, 1, none⟩ = some (.slice a0 n0 c0) := cell_of_heap hh rfl
        clear hh hl
        go_enter Tryd.func51, Tryd.ntmps51
        go_wp2_with fail
        refine hc.mono ?_
        rintro e w' ⟨rfl, hw⟩
        subst w'
        go_wp2_with fail
        refine hK.mono ?_
        rintro e w1 ⟨rfl, hD, hf⟩
        go_wp2
        go_ret
        exact ⟨rfl, hD, hf⟩
      · have hl : (d.get 1).length = n1 := h2.row.1
        rw [hl] at hle
        have e1 : w.cell? ⟨g, 3, none⟩ = some (.slice a1 n1 c1) := cell_of_heap hh rfl
        clear hh hl
        go_enter Tryd.func51, Tryd.ntmps51
        go_wp2_with fail
        refine hc.mono ?_
        rintro e w' ⟨rfl, hw⟩
        subst w'
        go_wp2_with fail
        refine hK.mono ?_
        rintro e w1 ⟨rfl, hD, hf⟩
        go_wp2
        go_ret
        exact ⟨rfl, hD, hf⟩
  · rw [if_neg hk] at hc
    rw [if_pos (.inl hk)]
    go_enter Tryd.func51, Tryd.ntmps51
    go_wp2_with fail
    refine hc.mono ?_
    rintro e w' ⟨rfl, hw⟩
    subst w'
    go_wp2
    go_ret
    exact ⟨rfl, h, Frm.refl _ _⟩
theorem dcut_nil (k n : Int) (w : World) : Calls Tryd.prog 51 #[.pointer none, .int .i64 k, .int .i64 n] w fun e w' => e = .returned (.int .i64 2) ∧ w' = w := by
  go_enter Tryd.func51, Tryd.ntmps51
  go_wp2_with fail
  refine (check_nil k w).mono ?_
  rintro e w' ⟨rfl, hw⟩
  subst w'
  go_wp2
  go_ret
  exact ⟨rfl, rfl⟩
end Go.Proofs.YtmlpneiadkngaaaDoor
