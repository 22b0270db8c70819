/- What package wal's openHead does: contracts. -/
import Derived.Test.YtmlpneiadkngaaaDoorWaA
import Derived.Test.YtmlpneiadkngaaaDoorFaE
namespace Go.Proofs.YtmlpneiadkngaaaDoor
open Go.RowKit

theorem openHead_mark (a : Option Addr) (n cap : Nat) (bs : List Nat) (w : World) (hr : Row w a n bs) (h : bs = [] ∨ ∃ x l, bs = x :: l ∧ x ≠ 71) :
    Calls Tryd.prog 39 #[.slice a n cap] w fun e w' => ∃ v qs, e = .returned (.tuple #[.int .u64 0, .int .u64 0, v]) ∧ Errv w' 3 qs v ∧ Below w.heap.size w w' := by
  have hn := hr.1
  rcases h with rfl | ⟨x, l, rfl, hx⟩
  · have h0 : n = 0 := hn.symm
    subst h0
    go_enter Tryd.func39, Tryd.ntmps39
    go_wp2_with fail
    refine (new_bad ⟨#[109, 97, 114, 107]⟩ 3 w (by omega)).mono ?_
    rintro e w1 ⟨v, rfl, hv, hb⟩
    go_wp2
    go_ret3
    exact ⟨v, _, rfl, hv, hb⟩
  · obtain ⟨b, off, rfl, hc⟩ := hr.2.2.2.resolve_left (by simp)
    have hc0 := hc 0 (by simp)
    simp only [List.getElem?_cons_zero, Option.getD_some, Nat.add_zero] at hc0
    have hx2 : (x : Int) ≠ 71 := by omega
    have hn0 : (n : Int) ≠ 0 := by rw [← hn]; simp; omega
    have hnp : 0 < n := by rw [← hn]; simp
    have hxx : ((x : Int) != 71) = true := by simpa using hx2
    clear hc hn hr
    go_enter Tryd.func39, Tryd.ntmps39
    go_wp2_with fail
    refine (new_bad ⟨#[109, 97, 114, 107]⟩ 3 w (by omega)).mono ?_
    rintro e w1 ⟨v, rfl, hv, hb⟩
    go_wp2
    go_ret3
    exact ⟨v, _, rfl, hv, hb⟩

theorem openHead_read (b off n cap : Nat) (l : List Nat) (w : World) (hr : Row w (some ⟨b, off, none⟩) n (71 :: l)) (hnc : n ≤ cap) (hmc : cap ≤ maxLen) (hl : n ≤ 1000000) :
    Calls Tryd.prog 39 #[.slice (some ⟨b, off, none⟩) n cap] w fun e w' => (if (Wa.two l).2 = some [] then e = .returned (.tuple #[.int .u64 ((Wa.two l).1.1 : Nat), .int .u64 ((Wa.two l).1.2 : Nat), .nilIface]) else ∃ v qs, e = .returned (.tuple #[.int .u64 0, .int .u64 0, v]) ∧ Errv w' 3 qs v) ∧ Below w.heap.size w w' := by
  have hn := hr.1
  have hnp : 0 < n := by rw [← hn]; simp
  have hd := hr.drop 1 (by omega)
  simp only [List.drop_succ_cons, List.drop_zero] at hd
  have hc0 : w.cell? ⟨b, off, none⟩ = some (.int .u8 71) := by
    rcases hr.2.2.2 with h | ⟨b', off', h, hc⟩
    · simp at h
    · simp only [Option.some.injEq, Addr.mk.injEq] at h
      obtain ⟨rfl, rfl, _⟩ := h
      have := hc 0 (by simp)
      simpa using this
  have HR : Hid (Row w (some ⟨b, off + 1, none⟩) (n - 1) l) := hd
  clear hr hd hn
  unfold maxLen at hmc
  have key : ∀ a' c', (a' = none → c' = 0) → Row w a' (n - 1) l → Calls Tryd.prog 54 #[.slice a' (n - 1 : Nat) c'] w fun e w' => ∃ g, e = .returned (.pointer (some ⟨g, 0, none⟩)) ∧ Rd w' g (some l) ∧ w.heap.size ≤ g ∧ Below w.heap.size w w' := fun a' c' hz hr => new_any a' (n - 1) c' l w hr hz (by omega)
  have hi : (n : Int) - 1 = ((n - 1 : Nat) : Int) := by omega
  have htwo : Wa.two l = (((Oct.atMost 18446744073709551615 (some l)).1, (Oct.atMost 18446744073709551615 (Oct.atMost 18446744073709551615 (some l)).2).1), (Oct.atMost 18446744073709551615 (Oct.atMost 18446744073709551615 (some l)).2).2) := rfl
  rw [htwo]
  dsimp only
  clear htwo hi
  by_cases hE : (Oct.atMost 18446744073709551615 (Oct.atMost 18446744073709551615 (some l)).2).2 = some []
  · simp only [if_pos hE]
    have HE : Hid (((Oct.atMost 18446744073709551615 (Oct.atMost 18446744073709551615 (some l)).2).2 == some []) = true) := by simpa [Hid] using hE
    clear hE
    by_cases hc1 : cap = 1
    · subst hc1
      have hn1 : n = 1 := by omega
      subst hn1
      have hl0 : l = [] := List.length_eq_zero_iff.1 HR.out.1
      have hk := key (some ⟨b, off, none⟩) 0 (by simp) (by rw [hl0]; exact Row.empty)
      clear key hl0
      go_enter Tryd.func39, Tryd.ntmps39
      go_wp2_with fail
      refine hk.mono ?_
      clear hk
      rintro e w1 ⟨g, rfl, hR, hgw, hb⟩
      have HB1 : Hid (Below w.heap.size w w1) := hb
      clear hb
      go_wp2_with fail
      refine (n_any g _ w1 hR).mono ?_
      rintro e w2 ⟨rfl, hR2, ho2⟩
      have HB2 : Hid (Below w.heap.size w w2) := HB1.out.trans (ho2.below hgw HB1.out.size)
      clear ho2 hR
      go_wp2_with fail
      refine (n_any g _ w2 hR2).mono ?_
      rintro e w3 ⟨rfl, hR3, ho3⟩
      have HB3 : Hid (Below w.heap.size w w3) := HB2.out.trans (ho3.below hgw HB2.out.size)
      clear ho3 hR2
      have hdn := done_any g _ w3 hR3
      rw [HE.out] at hdn
      go_wp2_with fail
      refine hdn.mono ?_
      clear hdn
      rintro e w4 ⟨rfl, hw⟩
      subst w4
      go_wp2
      go_ret3
      exact ⟨rfl, HB3.out⟩
    · have hk := key (some ⟨b, off + 1, none⟩) (cap - 1) (by simp) HR.out
      have hc2 : 1 < cap := by omega
      clear key
      go_enter Tryd.func39, Tryd.ntmps39
      go_wp2_with fail
      refine hk.mono ?_
      clear hk
      rintro e w1 ⟨g, rfl, hR, hgw, hb⟩
      have HB1 : Hid (Below w.heap.size w w1) := hb
      clear hb
      go_wp2_with fail
      refine (n_any g _ w1 hR).mono ?_
      rintro e w2 ⟨rfl, hR2, ho2⟩
      have HB2 : Hid (Below w.heap.size w w2) := HB1.out.trans (ho2.below hgw HB1.out.size)
      clear ho2 hR
      go_wp2_with fail
      refine (n_any g _ w2 hR2).mono ?_
      rintro e w3 ⟨rfl, hR3, ho3⟩
      have HB3 : Hid (Below w.heap.size w w3) := HB2.out.trans (ho3.below hgw HB2.out.size)
      clear ho3 hR2
      have hdn := done_any g _ w3 hR3
      rw [HE.out] at hdn
      go_wp2_with fail
      refine hdn.mono ?_
      clear hdn
      rintro e w4 ⟨rfl, hw⟩
      subst w4
      go_wp2
      go_ret3
      exact ⟨rfl, HB3.out⟩
  · simp only [if_neg hE]
    have HE : Hid (((Oct.atMost 18446744073709551615 (Oct.atMost 18446744073709551615 (some l)).2).2 == some []) = false) := by simpa [Hid] using hE
    clear hE
    by_cases hc1 : cap = 1
    · subst hc1
      have hn1 : n = 1 := by omega
      subst hn1
      have hl0 : l = [] := List.length_eq_zero_iff.1 HR.out.1
      have hk := key (some ⟨b, off, none⟩) 0 (by simp) (by rw [hl0]; exact Row.empty)
      clear key hl0
      go_enter Tryd.func39, Tryd.ntmps39
      go_wp2_with fail
      refine hk.mono ?_
      clear hk
      rintro e w1 ⟨g, rfl, hR, hgw, hb⟩
      have HB1 : Hid (Below w.heap.size w w1) := hb
      clear hb
      go_wp2_with fail
      refine (n_any g _ w1 hR).mono ?_
      rintro e w2 ⟨rfl, hR2, ho2⟩
      have HB2 : Hid (Below w.heap.size w w2) := HB1.out.trans (ho2.below hgw HB1.out.size)
      clear ho2 hR
      go_wp2_with fail
      refine (n_any g _ w2 hR2).mono ?_
      rintro e w3 ⟨rfl, hR3, ho3⟩
      have HB3 : Hid (Below w.heap.size w w3) := HB2.out.trans (ho3.below hgw HB2.out.size)
      clear ho3 hR2
      have hdn := done_any g _ w3 hR3
      rw [HE.out] at hdn
      go_wp2_with fail
      refine hdn.mono ?_
      clear hdn
      rintro e w4 ⟨rfl, hw⟩
      subst w4
      go_wp2_with fail
      refine (new_bad ⟨#[110, 117, 109, 98, 101, 114, 115]⟩ 3 w3 (by omega)).mono ?_
      rintro e w5 ⟨v, rfl, hv, hb5⟩
      have HB5 : Hid (Below w.heap.size w w5) := HB3.out.trans (hb5.mono HB3.out.size)
      clear hb5
      go_wp2
      go_ret3
      exact ⟨⟨v, _, rfl, hv⟩, HB5.out⟩
    · have hk := key (some ⟨b, off + 1, none⟩) (cap - 1) (by simp) HR.out
      have hc2 : 1 < cap := by omega
      clear key
      go_enter Tryd.func39, Tryd.ntmps39
      go_wp2_with fail
      refine hk.mono ?_
      clear hk
      rintro e w1 ⟨g, rfl, hR, hgw, hb⟩
      have HB1 : Hid (Below w.heap.size w w1) := hb
      clear hb
      go_wp2_with fail
      refine (n_any g _ w1 hR).mono ?_
      rintro e w2 ⟨rfl, hR2, ho2⟩
      have HB2 : Hid (Below w.heap.size w w2) := HB1.out.trans (ho2.below hgw HB1.out.size)
      clear ho2 hR
      go_wp2_with fail
      refine (n_any g _ w2 hR2).mono ?_
      rintro e w3 ⟨rfl, hR3, ho3⟩
      have HB3 : Hid (Below w.heap.size w w3) := HB2.out.trans (ho3.below hgw HB2.out.size)
      clear ho3 hR2
      have hdn := done_any g _ w3 hR3
      rw [HE.out] at hdn
      go_wp2_with fail
      refine hdn.mono ?_
      clear hdn
      rintro e w4 ⟨rfl, hw⟩
      subst w4
      go_wp2_with fail
      refine (new_bad ⟨#[110, 117, 109, 98, 101, 114, 115]⟩ 3 w3 (by omega)).mono ?_
      rintro e w5 ⟨v, rfl, hv, hb5⟩
      have HB5 : Hid (Below w.heap.size w w5) := HB3.out.trans (hb5.mono HB3.out.size)
      clear hb5
      go_wp2
      go_ret3
      exact ⟨⟨v, _, rfl, hv⟩, HB5.out⟩

theorem openHead_some (a : Option Addr) (n cap : Nat) (bs : List Nat) (g m : Nat) (w : World) (hr : Row w a n bs) (hnc : n ≤ cap) (hmc : cap ≤ maxLen) (hl : n ≤ 1000000) (h : Wa.opens bs = some (g, m)) :
    Calls Tryd.prog 39 #[.slice a n cap] w fun e w' => e = .returned (.tuple #[.int .u64 (g : Nat), .int .u64 (m : Nat), .nilIface]) ∧ Below w.heap.size w w' := by
  cases bs with
  | nil => cases h
  | cons x l =>
    have hn := hr.1
    obtain ⟨b, off, rfl, _⟩ := hr.at (by rw [← hn]; simp)
    unfold Wa.opens at h
    dsimp only at h
    by_cases hx : x = 71
    · subst hx
      rw [if_pos rfl] at h
      by_cases h2 : (Wa.two l).2 = some []
      · rw [if_pos h2] at h
        simp only [Option.some.injEq] at h
        have hc := openHead_read b off n cap l w hr hnc hmc hl
        simp only [if_pos h2, h] at hc
        exact hc
      · rw [if_neg h2] at h
        cases h
    · rw [if_neg hx] at h
      cases h
theorem openHead_none (a : Option Addr) (n cap : Nat) (bs : List Nat) (w : World) (hr : Row w a n bs) (hnc : n ≤ cap) (hmc : cap ≤ maxLen) (hl : n ≤ 1000000) (h : Wa.opens bs = none) :
    Calls Tryd.prog 39 #[.slice a n cap] w fun e w' => ∃ v qs, e = .returned (.tuple #[.int .u64 0, .int .u64 0, v]) ∧ Errv w' 3 qs v ∧ Below w.heap.size w w' := by
  cases bs with
  | nil => exact openHead_mark a n cap [] w hr (.inl rfl)
  | cons x l =>
    by_cases hx : x = 71
    · subst hx
      have hn := hr.1
      obtain ⟨b, off, rfl, _⟩ := hr.at (by rw [← hn]; simp)
      unfold Wa.opens at h
      dsimp only at h
      rw [if_pos rfl] at h
      by_cases h2 : (Wa.two l).2 = some []
      · rw [if_pos h2] at h
        cases h
      · have hc := openHead_read b off n cap l w hr hnc hmc hl
        simp only [if_neg h2] at hc
        refine hc.mono ?_
        rintro e w' ⟨⟨v, qs, he, hv⟩, hb⟩
        exact ⟨v, qs, he, hv, hb⟩
    · exact openHead_mark a n cap (x :: l) w hr (.inr ⟨x, l, rfl, hx⟩)
end Go.Proofs.YtmlpneiadkngaaaDoor
