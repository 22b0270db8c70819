/- The document's Same. -/
import Derived.Test.YtgpjplpfjghcgaaCoJ
namespace Go.Proofs.Ytgpjplpfjghcgaa
open Go Go.RowKit
set_option linter.unusedVariables false
set_option linter.unusedSimpArgs false

theorem neq_40 (m : Mb) (w : World) : (binOp .neq 40 (.agg #[.int .i64 m.1, .bool m.2]) (.agg #[.int .i64 m.1, .bool m.2])).run Try.prog w = .ok (.bool false) w := by
  have hS : Try.prog.underlying 40 = some (.struct (Try.prog.fieldsOf 40)) := by kernel_rfl
  have hp : Try.prog.stoodInHeld 40 = false := by kernel_rfl
  obtain ⟨q, o⟩ := m
  rw [run_neq_struct, show (10000 : Nat) = 9999 + 1 from rfl, run_equalIn_agg w 9999 40 _ _ hS hp]
  simp only [Program.fieldsOf, Try.underlying40]
  go_simp
theorem below_drewN {B : Nat} {a w : World} (h : Below B a w) (n : Nat) : Below B a (w.drewN n) := ⟨h.os, h.tape, h.output, h.size, h.block⟩

set_option maxRecDepth 100000 in
set_option maxHeartbeats 4000000 in
/-- one configuration is the same as itself, wherever its members lie -/
theorem rsame_any (va vb : Value) (c : Cf) (w : World) (ha : Rfr w va c) (hb : Rfr w vb c) :
    Calls Try.prog 20 #[va, vb] w fun e w' => e = .returned (.bool true) ∧ Below w.heap.size w w' := by
  obtain ⟨a, c1, rfl, hma, hl⟩ := ha
  obtain ⟨b, c2, rfl, hmb, -⟩ := hb
  obtain ⟨ep, sh, l, le⟩ := c
  simp only at *
  have hW0 : Below w.heap.size w ((w.alloc (.cells (rarr ep sh (.slice a l.length c1) le) 25)).alloc (.cells (rarr ep sh (.slice b l.length c2) le) 25)) := ((Below.refl _ _).alloc (Nat.le_refl _) _).alloc (by simp) _
  have hP0 : ((w.alloc (.cells (rarr ep sh (.slice a l.length c1) le) 25)).alloc (.cells (rarr ep sh (.slice b l.length c2) le) 25)).heap[w.heap.size]? = some (.cells (rarr ep sh (.slice a l.length c1) le) 25) := heap_kept (heap_alloc_new _ _) ((Below.refl _ _).alloc (Nat.le_refl _) _)
  have hZ0 : ((w.alloc (.cells (rarr ep sh (.slice a l.length c1) le) 25)).alloc (.cells (rarr ep sh (.slice b l.length c2) le) 25)).heap[w.heap.size + 1]? = some (.cells (rarr ep sh (.slice b l.length c2) le) 25) := by have := heap_alloc_new (w.alloc (.cells (rarr ep sh (.slice a l.length c1) le) 25)) (.cells (rarr ep sh (.slice b l.length c2) le) 25); rw [World.size_alloc] at this; exact this
  have HMA : Hid (Mrow ((w.alloc (.cells (rarr ep sh (.slice a l.length c1) le) 25)).alloc (.cells (rarr ep sh (.slice b l.length c2) le) 25)) a l) := hma.later hW0
  have HMB : Hid (Mrow ((w.alloc (.cells (rarr ep sh (.slice a l.length c1) le) 25)).alloc (.cells (rarr ep sh (.slice b l.length c2) le) 25)) b l) := hmb.later hW0
  clear hma hmb
  generalize hW : ((w.alloc (.cells (rarr ep sh (.slice a l.length c1) le) 25)).alloc (.cells (rarr ep sh (.slice b l.length c2) le) 25)) = w0 at *
  have HB0 : Hid (Below w.heap.size w w0) := hW0
  obtain ⟨x0, x1, x2, x3⟩ := four_cells hP0
  obtain ⟨y0, y1, y2, y3⟩ := four_cells hZ0
  clear hW0 hP0 hZ0
  generalize hn : l.length = n at *
  have HLN : Hid (l.length = n) := hn
  clear hn
  have t1 : ((ep : Int) != (ep : Int)) = false := by simp
  have t2 : (sh != sh) = false := by simp
  have t3 : (le != le) = false := by simp
  have t4 : ((n : Int) != (n : Int)) = false := by simp
  go_enter Try.func20, Try.ntmps20
  go_wp2
  clear hW t1 t2 t3 t4
  go_loopw [37] (fun i wr => ∃ k : Nat, k ≤ n ∧ i = .int .i64 (k : Nat) ∧ Hid (∃ q, wr = w0.drewN q)) (fun i _ => n - (intOf i).toNat)
  case atStart => exact ⟨0, Nat.zero_le _, rfl, 0, rfl⟩
  case round =>
    obtain ⟨k, hk, rfl, HQ⟩ := hrel
    obtain ⟨q, rfl⟩ := HQ.out
    by_cases hlt : k < n
    · have hkl : k < l.length := by rw [HLN.out]; exact hlt
      obtain ⟨ba, oa, rfl, hca⟩ := HMA.out.at (by omega)
      obtain ⟨bb, ob, rfl, hcb⟩ := HMB.out.at (by omega)
      obtain ⟨q0, q1⟩ := hca k _ (List.getElem?_eq_getElem hkl)
      obtain ⟨r0, r1⟩ := hcb k _ (List.getElem?_eq_getElem hkl)
      clear hca hcb
      generalize l[k] = m at q0 q1 r0 r1
      obtain ⟨mx, mf⟩ := m
      simp only at q0 q1 r0 r1
      have hne := neq_40 (mx, mf)
      simp only at hne
      have hk0 : (0 : Int) ≤ (k : Int) := by omega
      go_upto_region 6 with fail
      go_quiet (fail)
      go_wp2
      go_roundw
      case rel => exact ⟨k + 1, by omega, by go_num, _, rfl⟩
      case measure => simp [intOf]; omega
    · go_wp2
      go_ret
      exact ⟨rfl, below_drewN HB0.out q⟩
end Go.Proofs.Ytgpjplpfjghcgaa
