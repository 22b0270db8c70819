/- The chapter's example. -/
import Derived.Test.YtgpjplpfjghcgaaCoF
namespace Go.Proofs.Ytgpjplpfjghcgaa
open Go Go.RowKit
set_option linter.unusedVariables false
set_option linter.unusedSimpArgs false

def cfA : Cf := ⟨1, 0, [(3, true), (1, true), (2, false)], -1⟩
def cfB : Cf := ⟨2, 0, [(1, true), (2, false)], -1⟩
theorem rem_A : removeC cfA 3 2 = (cfB, 0) := by kernel_rfl
theorem rem_B : removeC cfB 1 3 = (zeroC, 10) := by kernel_rfl
theorem at_B0 : atC cfB 0 = 1 := by kernel_rfl
theorem at_B1 : atC cfB (((2 : Nat) : Int) - 1) = 2 := by kernel_rfl

theorem rem_A_any (v : Value) (w : World) (h : Cfr w v cfA) : Calls Try.prog 35 #[v, .int .i64 3, .int .u64 2] w fun e w' => (∃ a2 cc2 b2 dd2, e = .returned (.tuple #[.agg #[.int .u64 2, .int .i64 0, .slice a2 2 cc2, .slice b2 2 dd2, .int .i64 (-1)], .int .i64 0]) ∧ Cfr w' (.agg #[.int .u64 2, .int .i64 0, .slice a2 2 cc2, .slice b2 2 dd2, .int .i64 (-1)]) cfB) ∧ Below w.heap.size w w' := by
  have hcall := remove_any _ _ 3 2 _ h (by decide)
  rw [rem_A] at hcall
  refine hcall.mono ?_
  rintro e w2 ⟨⟨v2, rfl, hv2⟩, hb2⟩
  obtain ⟨a2, cc2, b2, dd2, rfl, h1, h2, h3⟩ := hv2.read
  exact ⟨⟨a2, cc2, b2, dd2, rfl, a2, cc2, b2, dd2, rfl, h1, h2, h3⟩, hb2⟩
theorem rem_B_any (v : Value) (w : World) (h : Cfr w v cfB) : Calls Try.prog 35 #[v, .int .i64 1, .int .u64 3] w fun e w' => (∃ a4 n4 c4 b4 m4 d4, e = .returned (.tuple #[.agg #[.int .u64 0, .int .i64 0, .slice a4 n4 c4, .slice b4 m4 d4, .int .i64 0], .int .i64 10])) ∧ Below w.heap.size w w' := by
  have hcall := remove_any _ _ 1 3 _ h (by decide)
  rw [rem_B] at hcall
  refine hcall.mono ?_
  rintro e w2 ⟨⟨v2, rfl, hv2⟩, hb2⟩
  obtain ⟨va, vb, rfl, h1, h2, -⟩ := hv2
  obtain ⟨a4, n4, c4, rfl⟩ := owns_slice h1
  obtain ⟨b4, m4, d4, rfl⟩ := owns_slice h2
  exact ⟨⟨a4, n4, c4, b4, m4, d4, rfl⟩, hb2⟩

set_option maxRecDepth 100000 in
set_option maxHeartbeats 2000000 in
theorem awake_any (w : World) : Calls Try.prog 17 #[] w fun e w' => e = .returned (.bool true) ∧ Below w.heap.size w w' := by
  obtain ⟨w1, hw1⟩ : ∃ w1, w1 = ((w.alloc (.cells #[.int .i64 3, .int .i64 1, .int .i64 2] 3)).alloc (.cells #[.bool true, .bool true, .bool false] 4)).alloc (.cells #[.int .u64 1, .int .i64 0, .slice (some ⟨w.heap.size, 0, none⟩) 3 3, .slice (some ⟨w.heap.size + 1, 0, none⟩) 3 3, .int .i64 (-1)] 29) := ⟨_, rfl⟩
  have hB1 : Below w.heap.size w w1 := by rw [hw1]; exact (((Below.refl _ _).alloc (Nat.le_refl _) _).alloc (by simp) _).alloc (by simp; omega) _
  have h3 : w1.heap[w.heap.size]? = some (.cells #[.int .i64 3, .int .i64 1, .int .i64 2] 3) := by
    rw [hw1]
    exact heap_kept (heap_alloc_new _ _) (((Below.refl _ _).alloc (Nat.le_refl _) _).alloc (by simp) _)
  have h4 : w1.heap[w.heap.size + 1]? = some (.cells #[.bool true, .bool true, .bool false] 4) := by
    have := heap_alloc_new (w.alloc (.cells #[.int .i64 3, .int .i64 1, .int .i64 2] 3)) (.cells #[.bool true, .bool true, .bool false] 4)
    rw [World.size_alloc] at this
    rw [hw1]
    exact heap_kept this ((Below.refl _ _).alloc (Nat.le_refl _) _)
  have hc : Cfr w1 (.agg #[.int .u64 1, .int .i64 0, .slice (some ⟨w.heap.size, 0, none⟩) 3 3, .slice (some ⟨w.heap.size + 1, 0, none⟩) 3 3, .int .i64 (-1)]) cfA := by
    refine ⟨_, 3, _, 3, rfl, ⟨rfl, .inr ⟨_, _, rfl, fun i u hi => ?_⟩⟩, ⟨rfl, .inr ⟨_, _, rfl, fun i u hi => ?_⟩⟩, by decide⟩
    · rw [Nat.zero_add]
      refine cell_of_heap h3 ?_
      rcases i with _ | _ | _ | i <;> simp [cfA, mi] at hi <;> subst hi <;> rfl
    · rw [Nat.zero_add]
      refine cell_of_heap h4 ?_
      rcases i with _ | _ | _ | i <;> simp [cfA, mb] at hi <;> subst hi <;> rfl
  have hcall := rem_A_any _ _ hc
  have HB1 : Hid (Below w.heap.size w w1) := hB1
  have hq : w1.heap[w.heap.size + 2]? = some (.cells #[.int .u64 1, .int .i64 0, .slice (some ⟨w.heap.size, 0, none⟩) 3 3, .slice (some ⟨w.heap.size + 1, 0, none⟩) 3 3, .int .i64 (-1)] 29) := by
    have := heap_alloc_new ((w.alloc (.cells #[.int .i64 3, .int .i64 1, .int .i64 2] 3)).alloc (.cells #[.bool true, .bool true, .bool false] 4)) (.cells #[.int .u64 1, .int .i64 0, .slice (some ⟨w.heap.size, 0, none⟩) 3 3, .slice (some ⟨w.heap.size + 1, 0, none⟩) 3 3, .int .i64 (-1)] 29)
    rw [World.size_alloc, World.size_alloc] at this
    rw [hw1]
    exact this
  obtain ⟨x0, x1, x2, x3, x4⟩ := five_cells hq
  clear hB1 h3 h4 hc hq
  have hw2 := hw1.symm
  clear hw1
  go_enter Try.func17, Try.ntmps17
  go_wp2_with fail
  refine hcall.mono ?_
  clear hcall x0 x1 x2 x3 x4 hw2
  rintro e w2 ⟨⟨a2, cc2, b2, dd2, rfl, hC2⟩, hb2⟩
  have hq3 := heap_alloc_new w2 (.cells #[.int .u64 2, .int .i64 0, .slice a2 2 cc2, .slice b2 2 dd2, .int .i64 (-1)] 29)
  have hb3 : Below w2.heap.size w2 (w2.alloc (.cells #[.int .u64 2, .int .i64 0, .slice a2 2 cc2, .slice b2 2 dd2, .int .i64 (-1)] 29)) := (Below.refl _ _).alloc (Nat.le_refl _) _
  have HC3 : Hid (Cfr (w2.alloc (.cells #[.int .u64 2, .int .i64 0, .slice a2 2 cc2, .slice b2 2 dd2, .int .i64 (-1)] 29)) (.agg #[.int .u64 2, .int .i64 0, .slice a2 2 cc2, .slice b2 2 dd2, .int .i64 (-1)]) cfB) := hC2.later hb3
  have HB3 : Hid (Below w.heap.size w (w2.alloc (.cells #[.int .u64 2, .int .i64 0, .slice a2 2 cc2, .slice b2 2 dd2, .int .i64 (-1)] 29))) := HB1.out.trans ((hb2.mono HB1.out.size).trans (hb3.mono (by have := hb2.size; have := HB1.out.size; omega)))
  clear hb2 hb3 hC2 HB1
  generalize hw3 : w2.alloc (.cells #[.int .u64 2, .int .i64 0, .slice a2 2 cc2, .slice b2 2 dd2, .int .i64 (-1)] 29) = w3 at *
  have HQ3 : Hid (w3.heap[w2.heap.size]? = some (.cells #[.int .u64 2, .int .i64 0, .slice a2 2 cc2, .slice b2 2 dd2, .int .i64 (-1)] 29)) := hq3
  obtain ⟨x0, x1, x2, x3, x4⟩ := five_cells hq3
  have hcall := rem_B_any _ _ HC3.out
  clear hq3
  go_wp2_with fail
  refine hcall.mono ?_
  clear hcall x0 x1 x2 x3 x4 hw3
  rintro e w4 ⟨⟨a4, n4, c4, b4, m4, d4, rfl⟩, hb4⟩
  have hb5 : Below w3.heap.size w3 (w4.alloc (.cells #[.int .u64 0, .int .i64 0, .slice a4 n4 c4, .slice b4 m4 d4, .int .i64 0] 29)) := hb4.trans (((Below.refl _ _).alloc (Nat.le_refl _) _).mono hb4.size)
  have HQ5 : Hid ((w4.alloc (.cells #[.int .u64 0, .int .i64 0, .slice a4 n4 c4, .slice b4 m4 d4, .int .i64 0] 29)).heap[w2.heap.size]? = some (.cells #[.int .u64 2, .int .i64 0, .slice a2 2 cc2, .slice b2 2 dd2, .int .i64 (-1)] 29)) := heap_kept HQ3.out hb5
  have HC5 : Hid (Cfr (w4.alloc (.cells #[.int .u64 0, .int .i64 0, .slice a4 n4 c4, .slice b4 m4 d4, .int .i64 0] 29)) (.agg #[.int .u64 2, .int .i64 0, .slice a2 2 cc2, .slice b2 2 dd2, .int .i64 (-1)]) cfB) := HC3.out.later hb5
  have HB5 : Hid (Below w.heap.size w (w4.alloc (.cells #[.int .u64 0, .int .i64 0, .slice a4 n4 c4, .slice b4 m4 d4, .int .i64 0] 29))) := HB3.out.trans (hb5.mono HB3.out.size)
  go_upto_region 4 with fail
  generalize w4.alloc (.cells #[.int .u64 0, .int .i64 0, .slice a4 n4 c4, .slice b4 m4 d4, .int .i64 0] 29) = w5 at *
  clear hb4 hb5 HQ3 HC3 HB3
  obtain ⟨x0, x1, x2, x3, x4⟩ := five_cells HQ5.out
  have hcall := head_any _ _ _ HC5.out
  rw [at_B0] at hcall
  go_wp2_with fail
  refine hcall.mono ?_
  clear hcall x0 x1 x2 x3 x4
  rintro e w6 ⟨rfl, hb6⟩
  have HQ6 : Hid (w6.heap[w2.heap.size]? = some (.cells #[.int .u64 2, .int .i64 0, .slice a2 2 cc2, .slice b2 2 dd2, .int .i64 (-1)] 29)) := heap_kept HQ5.out hb6
  have HB6 : Hid (Below w.heap.size w w6) := HB5.out.trans (hb6.mono HB5.out.size)
  have hcall := tail_any _ _ _ (HC5.out.later hb6)
  have HX : Hid (atC cfB ((cfB.l.length : Int) - 1) = 2) := at_B1
  rw [HX.out] at hcall
  clear hb6 HX
  obtain ⟨x0, x1, x2, x3, x4⟩ := five_cells HQ6.out
  go_wp2_with fail
  refine hcall.mono ?_
  clear hcall x0 x1 x2 x3 x4
  rintro e w7 ⟨rfl, hb7⟩
  have HB7 : Hid (Below w.heap.size w w7) := HB6.out.trans (hb7.mono HB6.out.size)
  clear hb7
  go_wp2
  go_ret
  exact ⟨rfl, HB7.out⟩
end Go.Proofs.Ytgpjplpfjghcgaa
