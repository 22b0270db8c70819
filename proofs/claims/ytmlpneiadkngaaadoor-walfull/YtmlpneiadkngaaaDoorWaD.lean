/- What package wal's generation, begin and anew do, where there are no records: contracts. -/
import Derived.Test.YtmlpneiadkngaaaDoorWaC
import Derived.Test.YtmlpneiadkngaaaDoorFrC
namespace Go.Proofs.YtmlpneiadkngaaaDoor
open Go.RowKit

/-- the first write of a generation without records -/
def Wa.first (gn : Nat) : List Nat := Fr.put (Wa.head gn 0)
theorem Wa.first_length (gn : Nat) : 10 ≤ (Wa.first gn).length ∧ (Wa.first gn).length ≤ 28 := by
  have := Wa.head_length gn 0
  unfold Wa.first
  rw [Fr.put_length]
  omega

theorem generation_nil (gn room : Nat) (w : World) (hgn : gn < 18446744073709551616) (_hroom : room ≤ 1048576) :
    Calls Tryd.prog 67 #[.int .u64 gn, .slice none 0 0, .int .i64 room] w fun e w' =>
      (if (Wa.first gn).length ≤ room then ∃ v, e = .returned (.tuple #[v, .nilIface]) ∧ Own w' w.heap.size v (Wa.first gn) else ∃ v qs, e = .returned (.tuple #[.slice none 0 0, v]) ∧ Errv w' 9 qs v) ∧ Below w.heap.size w w' := by
  have hlen := Wa.first_length gn
  have hhl := Wa.head_length gn 0
  have hh := head_any gn 0 w hgn (by omega)
  have fin : ∀ c, c ≤ room ∨ room < c := fun c => by omega
  clear fin
  by_cases hr : (Wa.first gn).length ≤ room
  · simp only [if_pos hr]
    go_enter Tryd.func67, Tryd.ntmps67
    go_wp2_with fail
    refine hh.mono ?_
    clear hh
    rintro e w1 ⟨b, rfl, hrow, hb⟩
    have HB1 : Hid (Below w.heap.size w w1) := hb
    clear hb
    have hp := put_ok _ _ (Wa.head gn 0).length _ w1 hrow (by simp) (by omega) (by omega)
    go_wp2_with fail
    refine hp.mono ?_
    clear hp hrow
    rintro e w2 ⟨v, rfl, ho, hb2⟩
    have ho2 : Own w2 w.heap.size v (Wa.first gn) := ho.mono HB1.out.size
    have HB2 : Hid (Below w.heap.size w w2) := HB1.out.trans (hb2.mono HB1.out.size)
    clear hb2 ho HB1
    obtain ⟨a, n, c, rfl, hrow, -⟩ := ho2.slice
    have hn := hrow.1
    have hi : (n : Int) ≤ (room : Int) := by omega
    have HO : Hid (Own w2 w.heap.size (.slice a n c) (Wa.first gn)) := ho2
    clear ho2 hrow hn hlen hr hhl
    go_wp2
    refine wp_loop_rounds 1 ?_
    rw [rounds_succ]
    go_wp2
    go_ret2
    exact ⟨⟨_, rfl, HO.out⟩, HB2.out⟩
  · simp only [if_neg hr]
    go_enter Tryd.func67, Tryd.ntmps67
    go_wp2_with fail
    refine hh.mono ?_
    clear hh
    rintro e w1 ⟨b, rfl, hrow, hb⟩
    have HB1 : Hid (Below w.heap.size w w1) := hb
    clear hb
    have hp := put_ok _ _ (Wa.head gn 0).length _ w1 hrow (by simp) (by omega) (by omega)
    go_wp2_with fail
    refine hp.mono ?_
    clear hp hrow
    rintro e w2 ⟨v, rfl, ho, hb2⟩
    have ho2 : Own w2 w.heap.size v (Wa.first gn) := ho.mono HB1.out.size
    have HB2 : Hid (Below w.heap.size w w2) := HB1.out.trans (hb2.mono HB1.out.size)
    clear hb2 ho HB1
    obtain ⟨a, n, c, rfl, hrow, -⟩ := ho2.slice
    have hn := hrow.1
    have hi : (room : Int) < (n : Int) := by omega
    clear ho2 hrow hn hlen hr hhl
    go_wp2
    refine wp_loop_rounds 1 ?_
    rw [rounds_succ]
    go_wp2_with fail
    refine (new_bad ⟨#[114, 111, 111, 109]⟩ 9 w2 (by omega)).mono ?_
    rintro e w3 ⟨v, rfl, hv, hb3⟩
    have HB3 : Hid (Below w.heap.size w w3) := HB2.out.trans (hb3.mono HB2.out.size)
    clear hb3
    go_wp2
    go_ret2
    exact ⟨⟨v, _, rfl, hv⟩, HB3.out⟩

/-- a generation without records begins in an area -/
def DS.begin (d : DS) (k : Int) (gn : Nat) : Nat × DS :=
  if d.free < (Wa.first gn).length then (9, d) else if (d.append k (Wa.first gn)).1 ≠ 0 then d.append k (Wa.first gn) else (d.append k (Wa.first gn)).2.sync k
def DS.anew (d : DS) (k : Int) (sz : Nat) : Nat × DS := if (d.wipe k sz).1 ≠ 0 then d.wipe k sz else (d.wipe k sz).2.begin k 1

theorem Dk.slot {w : World} {S : Nat → Prop} {g : Nat} {d : DS} (h : Dk w S g d) : S g := by
  obtain ⟨_, _, _, _, _, _, _, _, _, hg, _⟩ := h
  exact hg

set_option maxHeartbeats 1000000 in
set_option maxRecDepth 100000 in
theorem begin_nil (g : Nat) (S : Nat → Prop) (d : DS) (k : Int) (gn : Nat) (w : World) (h : Dk w S g d) (hS : ∀ k, w.heap.size ≤ k → S k) (hgn : gn < 18446744073709551616) :
    Calls Tryd.prog 52 #[.pointer (some ⟨g, 0, none⟩), .int .i64 k, .int .u64 gn, .slice none 0 0] w fun e w' => ∃ v, e = .returned v ∧ Err w' (d.begin k gn).1 v ∧ Dk w' S g (d.begin k gn).2 ∧ Frm S w w' := by
  have hrm := droom_any g S d w h
  have hfr : d.free ≤ 1048576 := by have := h.good.room; unfold DS.free; omega
  have hgS := h.slot
  unfold DS.begin
  by_cases hfull : d.free < (Wa.first gn).length
  · rw [if_pos hfull]
    go_enter Tryd.func52, Tryd.ntmps52
    go_wp2_with fail
    refine hrm.mono ?_
    clear hrm
    rintro e w1 ⟨rfl, kk, hw⟩
    have hD1 : Dk w1 S g d := by rw [hw]; exact h.drews
    have HF1 : Hid (Frm S w w1) := by rw [hw]; exact Frm.drews S w kk
    have hgen := generation_nil gn d.free w1 hgn hfr
    simp only [if_neg (Nat.not_le.2 hfull)] at hgen
    clear hw h
    go_wp2_with fail
    refine hgen.mono ?_
    clear hgen
    rintro e w2 ⟨⟨v, qs, rfl, hv⟩, hb2⟩
    have HF2 : Hid (Frm S w w2) := HF1.out.trans (Frm.of_later hb2 S)
    have hD2 := hD1.later hb2
    have hE : Err w2 9 v := .inr ⟨by decide, qs, hv⟩
    obtain ⟨tu, vu, rfl⟩ := hv.iface
    clear hb2 hD1 HF1 hv
    go_wp2_with fail
    refine (in_err _ 9 _ w2 hE).mono ?_
    rintro e w3 ⟨v3, rfl, hv3, hb3⟩
    go_wp2
    go_ret
    exact ⟨v3, rfl, hv3, hD2.later hb3, HF2.out.trans (Frm.of_later hb3 S)⟩
  · rw [if_neg hfull]
    have hle : (Wa.first gn).length ≤ d.free := by omega
    generalize hq : d.append k (Wa.first gn) = q at *
    obtain ⟨r, D⟩ := q
    dsimp only
    have step : ∀ (Q : Ending → World → Prop), (∀ w2 a n c, Own w2 w.heap.size (.slice a n c) (Wa.first gn) → Dk w2 S g d → Frm S w w2 → Hid (Below w.heap.size w w2) → True) → True := fun _ _ => trivial
    clear step
    by_cases hr : r = 0
    · subst hr
      rw [if_neg (by simp)]
      generalize hq2 : D.sync k = q2 at *
      obtain ⟨r2, D2⟩ := q2
      dsimp only
      go_enter Tryd.func52, Tryd.ntmps52
      go_wp2_with fail
      refine hrm.mono ?_
      clear hrm
      rintro e w1 ⟨rfl, kk, hw⟩
      have hD1 : Dk w1 S g d := by rw [hw]; exact h.drews
      have hz1 : w1.heap.size = w.heap.size := by rw [hw]; rfl
      have HF1 : Hid (Frm S w w1) := by rw [hw]; exact Frm.drews S w kk
      have HZ1 : Hid (w1.heap.size = w.heap.size) := hz1
      have hgen := generation_nil gn d.free w1 hgn hfr
      simp only [if_pos hle] at hgen
      clear hw h hz1
      go_wp2_with fail
      refine hgen.mono ?_
      clear hgen
      rintro e w2 ⟨⟨v, rfl, ho⟩, hb2⟩
      obtain ⟨a, n, c, rfl, hrow, -, -, hz, -⟩ := ho.slice
      have hD2 := hD1.later hb2
      have HF2 : Hid (Frm S w w2) := HF1.out.trans (Frm.of_later hb2 S)
      have hap := dappend_any g S d k a n c _ w2 hD2 (fun j hj => hS j (by have := HZ1.out; have := hb2.size; omega)) hrow hz
      rw [hq] at hap
      clear ho hb2 hD1 hrow HF1 HZ1 hD2
      go_wp2_with fail
      refine hap.mono ?_
      clear hap
      rintro e w3 ⟨rfl, hD3, hf3⟩
      have HF3 : Hid (Frm S w w3) := HF2.out.trans hf3
      have hsy := dsync_any g S D k w3 hD3
      rw [hq2] at hsy
      clear hf3 hD3 HF2
      go_wp2_with fail
      refine hsy.mono ?_
      clear hsy
      rintro e w4 ⟨rfl, hD4, hf4⟩
      have HF4 : Hid (Frm S w w4) := HF3.out.trans (hf4.mono fun j _ hj => by rw [hj]; exact hgS)
      clear hf4 HF3
      go_wp2_with fail
      refine (new_err _ r2 w4).mono ?_
      rintro e w5 ⟨v5, rfl, hv5, hb5⟩
      go_wp2
      go_ret
      exact ⟨v5, rfl, hv5, hD4.later hb5, HF4.out.trans (Frm.of_later hb5 S)⟩
    · rw [if_pos hr]
      have hri : (r : Int) ≠ 0 := by omega
      go_enter Tryd.func52, Tryd.ntmps52
      go_wp2_with fail
      refine hrm.mono ?_
      clear hrm
      rintro e w1 ⟨rfl, kk, hw⟩
      have hD1 : Dk w1 S g d := by rw [hw]; exact h.drews
      have HZ1 : Hid (w1.heap.size = w.heap.size) := by rw [hw]; exact rfl
      have HF1 : Hid (Frm S w w1) := by rw [hw]; exact Frm.drews S w kk
      have hgen := generation_nil gn d.free w1 hgn hfr
      simp only [if_pos hle] at hgen
      clear hw h
      go_wp2_with fail
      refine hgen.mono ?_
      clear hgen
      rintro e w2 ⟨⟨v, rfl, ho⟩, hb2⟩
      obtain ⟨a, n, c, rfl, hrow, -, -, hz, -⟩ := ho.slice
      have hD2 := hD1.later hb2
      have HF2 : Hid (Frm S w w2) := HF1.out.trans (Frm.of_later hb2 S)
      have hap := dappend_any g S d k a n c _ w2 hD2 (fun j hj => hS j (by have := HZ1.out; have := hb2.size; omega)) hrow hz
      rw [hq] at hap
      clear ho hb2 hD1 hrow HF1 HZ1 hD2
      go_wp2_with fail
      refine hap.mono ?_
      clear hap
      rintro e w3 ⟨rfl, hD3, hf3⟩
      have HF3 : Hid (Frm S w w3) := HF2.out.trans hf3
      clear hf3 HF2
      go_wp2_with fail
      refine (new_err _ r w3).mono ?_
      rintro e w5 ⟨v5, rfl, hv5, hb5⟩
      go_wp2
      go_ret
      exact ⟨v5, rfl, hv5, hD3.later hb5, HF3.out.trans (Frm.of_later hb5 S)⟩
end Go.Proofs.YtmlpneiadkngaaaDoor
