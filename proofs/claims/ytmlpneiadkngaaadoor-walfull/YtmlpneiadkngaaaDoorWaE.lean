/- What package wal's anew and newest do: contracts. -/
import Derived.Test.YtmlpneiadkngaaaDoorWaD
namespace Go.Proofs.YtmlpneiadkngaaaDoor
open Go.RowKit

theorem Err.form {w : World} {c : Nat} {v : Value} (h : Err w c v) (hc : c ≠ 0) : ∃ tu vu, v = .iface tu vu := by
  obtain ⟨qs, hv⟩ := h.isSome hc
  exact hv.iface

set_option maxHeartbeats 1000000 in
theorem anew_any (g : Nat) (S : Nat → Prop) (d : DS) (k : Int) (sz : Nat) (e0 wh gn rv : Value) (w : World) (h : Dk w S g d) (hS : ∀ k, w.heap.size ≤ k → S k) :
    Calls Tryd.prog 45 #[.pointer (some ⟨g, 0, none⟩), .int .i64 k, .agg #[.int .i64 sz, e0, wh, gn, rv]] w fun e w' => ∃ v, e = .returned v ∧ Err w' (d.anew k sz).1 v ∧ Dk w' S g (d.anew k sz).2 ∧ Frm S w w' := by
  have hgS := h.slot
  have hB : Below w.heap.size w (w.alloc (.cells #[.int .i64 sz, e0, wh, gn, rv] 54)) := below_new _ _
  have hD := h.later hB
  have HB : Hid (Below _ _ _) := hB
  clear hB h
  have hw := wipe_any g S d k sz e0 wh gn rv _ hD
  unfold DS.anew
  generalize hq : d.wipe k sz = q at *
  obtain ⟨r, D⟩ := q
  dsimp only at hw ⊢
  clear hD
  by_cases hr : r = 0
  · subst hr
    rw [if_neg (by simp)]
    go_enter Tryd.func45, Tryd.ntmps45
    go_wp2_with fail
    refine hw.mono ?_
    clear hw
    rintro e w1 ⟨v, rfl, hv, hD1, hf⟩
    have hvn := hv.isNil
    subst hvn
    have HF1 : Hid (Frm S w w1) := (Frm.of_later HB.out S).trans (hf.mono fun j _ hj => by rw [hj]; exact hgS)
    have hbg := begin_nil g S D k 1 w1 hD1 (fun j hj => hS j (Nat.le_trans HF1.out.size hj)) (by omega)
    clear hf hv hD1
    go_wp2_with fail
    refine hbg.mono ?_
    clear hbg
    rintro e w2 ⟨v2, rfl, hv2, hD2, hf2⟩
    go_wp2
    go_ret
    exact ⟨v2, rfl, hv2, hD2, HF1.out.trans hf2⟩
  · rw [if_pos hr]
    go_enter Tryd.func45, Tryd.ntmps45
    go_wp2_with fail
    refine hw.mono ?_
    clear hw
    rintro e w1 ⟨v, rfl, hv, hD1, hf⟩
    obtain ⟨tu, vu, rfl⟩ := hv.form hr
    have HF1 : Hid (Frm S w w1) := (Frm.of_later HB.out S).trans (hf.mono fun j _ hj => by rw [hj]; exact hgS)
    have HV : Hid (Err w1 r (.iface tu vu)) := hv
    clear hf hv
    go_wp2
    go_ret
    exact ⟨_, rfl, HV.out, hD1, HF1.out⟩

/-- which area is the log's -/
def Wa.newest (w0 w1 : Bool) (g0 g1 : Nat) : Nat := if w1 = false then 0 else if w0 = true ∧ g1 ≤ g0 then 0 else 1
theorem newest_any (s0 e0 r0 s1 e1 r1 : Value) (h0 h1 : Bool) (g0 g1 : Nat) (w : World) :
    Calls Tryd.prog 43 #[.agg #[s0, e0, .bool h0, .int .u64 g0, r0, s1, e1, .bool h1, .int .u64 g1, r1]] w fun e w' => e = .returned (.int .i64 (Wa.newest h0 h1 g0 g1 : Nat)) ∧ Below w.heap.size w w' := by
  have HB : Hid (Below w.heap.size w (w.alloc (.cells #[s0, e0, .bool h0, .int .u64 g0, r0, s1, e1, .bool h1, .int .u64 g1, r1] 55))) := below_new _ _
  unfold Wa.newest
  cases h1 with
  | false =>
    rw [if_pos rfl]
    go_enter Tryd.func43, Tryd.ntmps43
    go_wp2
    go_ret
    exact ⟨rfl, HB.out⟩
  | true =>
    rw [if_neg (by simp)]
    cases h0 with
    | false =>
      rw [if_neg (by simp)]
      go_enter Tryd.func43, Tryd.ntmps43
      go_wp2
      go_ret
      exact ⟨rfl, HB.out⟩
    | true =>
      by_cases hg : g1 ≤ g0
      · rw [if_pos ⟨rfl, hg⟩]
        have hgi : (g1 : Int) ≤ (g0 : Int) := by omega
        go_enter Tryd.func43, Tryd.ntmps43
        go_wp2
        go_ret
        exact ⟨rfl, HB.out⟩
      · rw [if_neg (fun h => hg h.2)]
        have hgi : (g0 : Int) < (g1 : Int) := by omega
        go_enter Tryd.func43, Tryd.ntmps43
        go_wp2
        go_ret
        exact ⟨rfl, HB.out⟩
end Go.Proofs.YtmlpneiadkngaaaDoor
