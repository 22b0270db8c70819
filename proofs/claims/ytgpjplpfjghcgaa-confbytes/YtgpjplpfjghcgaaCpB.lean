/- conf.Same of one and the same configuration. -/
import Derived.Test.YtgpjplpfjghcgaaCoS
import Derived.Test.YtgpjplpfjghcgaaCoC
namespace Go.Proofs.Ytgpjplpfjghcgaa
open Go Go.RowKit
set_option linter.unusedVariables false
set_option linter.unusedSimpArgs false

set_option maxRecDepth 100000 in
set_option maxHeartbeats 2000000 in
theorem equal_int (a b : Option Addr) (n c d : Nat) (l : List Int) (w : World) (ha : Vals w a n (l.map (Value.int .i64))) (hb : Vals w b n (l.map (Value.int .i64))) (hm : n ≤ 1000000) :
    Calls Try.prog 50 #[.slice a n c, .slice b n d] w fun e w' => e = .returned (.bool true) ∧ Below w.heap.size w w' := by
  have hn : l.length = n := by have := ha.1; simpa using this
  have HA : Hid (Vals w a n (l.map (Value.int .i64))) := ha
  have HB : Hid (Vals w b n (l.map (Value.int .i64))) := hb
  clear ha hb
  have t4 : ((n : Int) != (n : Int)) = false := by simp
  go_enter Try.func50, Try.ntmps50
  go_wp2
  clear t4
  go_loopw [13] (fun i wr => ∃ k : Nat, k ≤ n ∧ i = .int .i64 (k : Nat) ∧ Hid (∃ q, wr = w.drewN q)) (fun i _ => n - (intOf i).toNat)
  case atStart => exact ⟨0, Nat.zero_le _, rfl, 0, rfl⟩
  case round =>
    obtain ⟨k, hk, rfl, HQ⟩ := hrel
    obtain ⟨q, rfl⟩ := HQ.out
    by_cases hlt : k < n
    · have hkl : k < l.length := by omega
      obtain ⟨ba, oa, rfl, hca⟩ := HA.out.at (by omega)
      obtain ⟨bb, ob, rfl, hcb⟩ := HB.out.at (by omega)
      have q0 := hca k (Value.int .i64 l[k]) (by simp [hkl])
      have r0 := hcb k (Value.int .i64 l[k]) (by simp [hkl])
      clear hca hcb
      generalize l[k] = x at q0 r0
      have hk0 : (0 : Int) ≤ (k : Int) := by omega
      have hxx : (x != x) = false := by simp
      go_upto_region 6 with fail
      go_quiet (fail)
      go_wp2
      go_roundw
      case rel => exact ⟨k + 1, by omega, by go_num, _, rfl⟩
      case measure => simp [intOf]; omega
    · go_wp2
      go_ret
      exact ⟨rfl, below_drewN (Below.refl _ _) q⟩

set_option maxRecDepth 100000 in
set_option maxHeartbeats 2000000 in
theorem equal_bool (a b : Option Addr) (n c d : Nat) (l : List Bool) (w : World) (ha : Vals w a n (l.map (Value.bool))) (hb : Vals w b n (l.map (Value.bool))) (hm : n ≤ 1000000) :
    Calls Try.prog 51 #[.slice a n c, .slice b n d] w fun e w' => e = .returned (.bool true) ∧ Below w.heap.size w w' := by
  have hn : l.length = n := by have := ha.1; simpa using this
  have HA : Hid (Vals w a n (l.map (Value.bool))) := ha
  have HB : Hid (Vals w b n (l.map (Value.bool))) := hb
  clear ha hb
  have t4 : ((n : Int) != (n : Int)) = false := by simp
  go_enter Try.func51, Try.ntmps51
  go_wp2
  clear t4
  go_loopw [13] (fun i wr => ∃ k : Nat, k ≤ n ∧ i = .int .i64 (k : Nat) ∧ Hid (∃ q, wr = w.drewN q)) (fun i _ => n - (intOf i).toNat)
  case atStart => exact ⟨0, Nat.zero_le _, rfl, 0, rfl⟩
  case round =>
    obtain ⟨k, hk, rfl, HQ⟩ := hrel
    obtain ⟨q, rfl⟩ := HQ.out
    by_cases hlt : k < n
    · have hkl : k < l.length := by omega
      obtain ⟨ba, oa, rfl, hca⟩ := HA.out.at (by omega)
      obtain ⟨bb, ob, rfl, hcb⟩ := HB.out.at (by omega)
      have q0 := hca k (Value.bool l[k]) (by simp [hkl])
      have r0 := hcb k (Value.bool l[k]) (by simp [hkl])
      clear hca hcb
      generalize l[k] = x at q0 r0
      have hk0 : (0 : Int) ≤ (k : Int) := by omega
      have hxx : (x != x) = false := by simp
      go_upto_region 6 with fail
      go_quiet (fail)
      go_wp2
      go_roundw
      case rel => exact ⟨k + 1, by omega, by go_num, _, rfl⟩
      case measure => simp [intOf]; omega
    · go_wp2
      go_ret
      exact ⟨rfl, below_drewN (Below.refl _ _) q⟩

set_option maxRecDepth 100000 in
set_option maxHeartbeats 4000000 in
/-- one configuration is the same as itself, wherever its lists lie -/
theorem same_any (va vb : Value) (c : Cf) (w : World) (ha : Cfr w va c) (hb : Cfr w vb c) :
    Calls Try.prog 26 #[va, vb] w fun e w' => e = .returned (.bool true) ∧ Below w.heap.size w w' := by
  obtain ⟨a, c1, b, c2, rfl, h1, h2, hl⟩ := ha
  obtain ⟨a', c1', b', c2', rfl, h1', h2', -⟩ := hb
  obtain ⟨ep, sh, l, le⟩ := c
  simp only at *
  have hW0 : Below w.heap.size w ((w.alloc (.cells (carr ep sh (.slice a l.length c1) (.slice b l.length c2) le) 29)).alloc (.cells (carr ep sh (.slice a' l.length c1') (.slice b' l.length c2') le) 29)) := ((Below.refl _ _).alloc (Nat.le_refl _) _).alloc (by simp) _
  have hP0 : ((w.alloc (.cells (carr ep sh (.slice a l.length c1) (.slice b l.length c2) le) 29)).alloc (.cells (carr ep sh (.slice a' l.length c1') (.slice b' l.length c2') le) 29)).heap[w.heap.size]? = some (.cells (carr ep sh (.slice a l.length c1) (.slice b l.length c2) le) 29) := heap_kept (heap_alloc_new _ _) ((Below.refl _ _).alloc (Nat.le_refl _) _)
  have hZ0 : ((w.alloc (.cells (carr ep sh (.slice a l.length c1) (.slice b l.length c2) le) 29)).alloc (.cells (carr ep sh (.slice a' l.length c1') (.slice b' l.length c2') le) 29)).heap[w.heap.size + 1]? = some (.cells (carr ep sh (.slice a' l.length c1') (.slice b' l.length c2') le) 29) := by have := heap_alloc_new (w.alloc (.cells (carr ep sh (.slice a l.length c1) (.slice b l.length c2) le) 29)) (.cells (carr ep sh (.slice a' l.length c1') (.slice b' l.length c2') le) 29); rw [World.size_alloc] at this; exact this
  rw [map_mi] at h1 h1'
  have hmb : l.map mb = (l.map (·.2)).map Value.bool := by simp [mb]
  rw [hmb] at h2 h2'
  have hc1 := equal_int a a' l.length c1 c1' (nodes l) _ (h1.later hW0) (h1'.later hW0) (by omega)
  have HB1 : Hid (Vals w b l.length ((l.map (·.2)).map Value.bool)) := h2
  have HB2 : Hid (Vals w b' l.length ((l.map (·.2)).map Value.bool)) := h2'
  clear h1 h1' h2 h2' hmb
  generalize hW : ((w.alloc (.cells (carr ep sh (.slice a l.length c1) (.slice b l.length c2) le) 29)).alloc (.cells (carr ep sh (.slice a' l.length c1') (.slice b' l.length c2') le) 29)) = w0 at *
  have HP0 : Hid (w0.heap[w.heap.size]? = some (.cells (carr ep sh (.slice a l.length c1) (.slice b l.length c2) le) 29)) := hP0
  have HZ0 : Hid (w0.heap[w.heap.size + 1]? = some (.cells (carr ep sh (.slice a' l.length c1') (.slice b' l.length c2') le) 29)) := hZ0
  have HW0 : Hid (Below w.heap.size w w0) := hW0
  clear hP0 hZ0 hW0
  obtain ⟨x0, x1, x2, x3, x4⟩ := five_cells HP0.out
  obtain ⟨z0, z1, z2, z3, z4⟩ := five_cells HZ0.out
  have t1 : ((ep : Int) == (ep : Int)) = true := by simp
  have t2 : (sh == sh) = true := by simp
  have t3 : (le == le) = true := by simp
  go_enter Try.func26, Try.ntmps26
  go_wp2_with fail
  refine hc1.mono ?_
  clear hc1 x0 x1 x2 x3 x4 z0 z1 z2 z3 z4 hW
  rintro e w1 ⟨rfl, hb1⟩
  have HB3 : Hid (Below w.heap.size w w1) := HW0.out.trans (hb1.mono HW0.out.size)
  have HP1 : Hid (w1.heap[w.heap.size]? = some (.cells (carr ep sh (.slice a l.length c1) (.slice b l.length c2) le) 29)) := heap_kept HP0.out hb1
  have HZ1 : Hid (w1.heap[w.heap.size + 1]? = some (.cells (carr ep sh (.slice a' l.length c1') (.slice b' l.length c2') le) 29)) := heap_kept HZ0.out hb1
  clear hb1 HP0 HZ0 HW0
  obtain ⟨x0, x1, x2, x3, x4⟩ := five_cells HP1.out
  obtain ⟨z0, z1, z2, z3, z4⟩ := five_cells HZ1.out
  have hc2 := equal_bool b b' l.length c2 c2' (l.map (·.2)) _ (HB1.out.later HB3.out) (HB2.out.later HB3.out) (by omega)
  go_wp2_with fail
  refine hc2.mono ?_
  clear hc2 x0 x1 x2 x3 x4 z0 z1 z2 z3 z4
  rintro e w2 ⟨rfl, hb2⟩
  have HB4 : Hid (Below w.heap.size w w2) := HB3.out.trans (hb2.mono HB3.out.size)
  have HP2 : Hid (w2.heap[w.heap.size]? = some (.cells (carr ep sh (.slice a l.length c1) (.slice b l.length c2) le) 29)) := heap_kept HP1.out hb2
  have HZ2 : Hid (w2.heap[w.heap.size + 1]? = some (.cells (carr ep sh (.slice a' l.length c1') (.slice b' l.length c2') le) 29)) := heap_kept HZ1.out hb2
  clear hb2 HP1 HZ1 HB3
  obtain ⟨x0, x1, x2, x3, x4⟩ := five_cells HP2.out
  obtain ⟨z0, z1, z2, z3, z4⟩ := five_cells HZ2.out
  go_wp2_with fail
  go_ret
  exact ⟨rfl, HB4.out⟩
end Go.Proofs.Ytgpjplpfjghcgaa
