/- The document's SameTxn of one and the same. -/
import Derived.Test.YteokhedljfakkaaDoorEnV
namespace Go.Proofs.YteokhedljfakkaaDoor
open Go Go.RowKit
set_option linter.unusedVariables false
set_option linter.unusedSimpArgs false

theorem neq_66 (x : Rdv) (w : World) : (binOp .neq 66 (.agg #[.string x.key, .int .u64 x.num]) (.agg #[.string x.key, .int .u64 x.num])).run Tryd.prog w = .ok (.bool false) w := by
  have hS : Tryd.prog.underlying 66 = some (.struct (Tryd.prog.fieldsOf 66)) := by kernel_rfl
  have hp : Tryd.prog.stoodInHeld 66 = false := by kernel_rfl
  obtain ⟨q, o⟩ := x
  rw [run_neq_struct, show (10000 : Nat) = 9999 + 1 from rfl, run_equalIn_agg w 9999 66 _ _ hS hp]
  simp only [Program.fieldsOf, Tryd.underlying66]
  go_simp
theorem neq_69 (x : Wrv) (w : World) : (binOp .neq 69 (.agg #[.string x.key, .string x.val, .bool x.gone]) (.agg #[.string x.key, .string x.val, .bool x.gone])).run Tryd.prog w = .ok (.bool false) w := by
  have hS : Tryd.prog.underlying 69 = some (.struct (Tryd.prog.fieldsOf 69)) := by kernel_rfl
  have hp : Tryd.prog.stoodInHeld 69 = false := by kernel_rfl
  obtain ⟨q, o, g⟩ := x
  rw [run_neq_struct, show (10000 : Nat) = 9999 + 1 from rfl, run_equalIn_agg w 9999 69 _ _ hS hp]
  simp only [Program.fieldsOf, Tryd.underlying69]
  go_simp
theorem five_cells {w : World} {g : Nat} {a b c d e : Value} {t : TypeId} (h : w.heap[g]? = some (.cells #[a, b, c, d, e] t (0, 0))) :
    w.cell? ⟨g, 0, none⟩ = some a ∧ w.cell? ⟨g, 1, none⟩ = some b ∧ w.cell? ⟨g, 2, none⟩ = some c ∧ w.cell? ⟨g, 3, none⟩ = some d ∧ w.cell? ⟨g, 4, none⟩ = some e :=
  ⟨cell_of_heap h rfl, cell_of_heap h rfl, cell_of_heap h rfl, cell_of_heap h rfl, cell_of_heap h rfl⟩
set_option maxRecDepth 100000 in
set_option maxHeartbeats 4000000 in
theorem rsame_any (id : Id) (plain : Bool) (p q : Nat) (a1 b1 : Option Addr) (c1 d1 : Nat) (a2 b2 : Option Addr) (c2 d2 : Nat) (l1 : List Rdv) (l2 : List Wrv) (w : World) (h : Tr w p a1 c1 a2 c2 l1 l2) (h' : Tr w q b1 d1 b2 d2 l1 l2) :
    Calls Tryd.prog 21 #[txnv id plain (.slice a1 l1.length c1) (.slice a2 l2.length c2), txnv id plain (.slice b1 l1.length d1) (.slice b2 l2.length d2)] w fun e w' => e = .returned (.bool true) ∧ Below w.heap.size w w' := by
  obtain ⟨i1, i2⟩ := id
  obtain ⟨aa, cc, e1, hR⟩ := owns_rds h.r ⟨⟨#[]⟩, 0⟩
  simp only [Value.slice.injEq, true_and] at e1
  obtain ⟨rfl, rfl⟩ := e1
  obtain ⟨aa, cc, e1, hW⟩ := owns_wrs h.w ⟨⟨#[]⟩, ⟨#[]⟩, false⟩
  simp only [Value.slice.injEq, true_and] at e1
  obtain ⟨rfl, rfl⟩ := e1
  obtain ⟨aa, cc, e1, hR'⟩ := owns_rds h'.r ⟨⟨#[]⟩, 0⟩
  simp only [Value.slice.injEq, true_and] at e1
  obtain ⟨rfl, rfl⟩ := e1
  obtain ⟨aa, cc, e1, hW'⟩ := owns_wrs h'.w ⟨⟨#[]⟩, ⟨#[]⟩, false⟩
  simp only [Value.slice.injEq, true_and] at e1
  obtain ⟨rfl, rfl⟩ := e1
  clear h h'
  have hW0 : Below w.heap.size w ((w.alloc (.cells #[.int .i64 i1, .int .u64 i2, .bool plain, .slice a1 l1.length c1, .slice a2 l2.length c2] 28)).alloc (.cells #[.int .i64 i1, .int .u64 i2, .bool plain, .slice b1 l1.length d1, .slice b2 l2.length d2] 28)) := ((Below.refl _ _).alloc (Nat.le_refl _) _).alloc (by simp) _
  have hP0 : ((w.alloc (.cells #[.int .i64 i1, .int .u64 i2, .bool plain, .slice a1 l1.length c1, .slice a2 l2.length c2] 28)).alloc (.cells #[.int .i64 i1, .int .u64 i2, .bool plain, .slice b1 l1.length d1, .slice b2 l2.length d2] 28)).heap[w.heap.size]? = some (.cells #[.int .i64 i1, .int .u64 i2, .bool plain, .slice a1 l1.length c1, .slice a2 l2.length c2] 28) := keepc ((Below.refl _ _).alloc (Nat.le_refl _) _) (heap_alloc_new _ _)
  have hZ0 : ((w.alloc (.cells #[.int .i64 i1, .int .u64 i2, .bool plain, .slice a1 l1.length c1, .slice a2 l2.length c2] 28)).alloc (.cells #[.int .i64 i1, .int .u64 i2, .bool plain, .slice b1 l1.length d1, .slice b2 l2.length d2] 28)).heap[w.heap.size + 1]? = some (.cells #[.int .i64 i1, .int .u64 i2, .bool plain, .slice b1 l1.length d1, .slice b2 l2.length d2] 28) := by have := heap_alloc_new (w.alloc (.cells #[.int .i64 i1, .int .u64 i2, .bool plain, .slice a1 l1.length c1, .slice a2 l2.length c2] 28)) (.cells #[.int .i64 i1, .int .u64 i2, .bool plain, .slice b1 l1.length d1, .slice b2 l2.length d2] 28); rw [World.size_alloc] at this; exact this
  have HRA : Hid (Rds ((w.alloc (.cells #[.int .i64 i1, .int .u64 i2, .bool plain, .slice a1 l1.length c1, .slice a2 l2.length c2] 28)).alloc (.cells #[.int .i64 i1, .int .u64 i2, .bool plain, .slice b1 l1.length d1, .slice b2 l2.length d2] 28)) a1 l1.length (fun i => l1[i]?.getD ⟨⟨#[]⟩, 0⟩)) := hR.later hW0
  have HRB : Hid (Rds ((w.alloc (.cells #[.int .i64 i1, .int .u64 i2, .bool plain, .slice a1 l1.length c1, .slice a2 l2.length c2] 28)).alloc (.cells #[.int .i64 i1, .int .u64 i2, .bool plain, .slice b1 l1.length d1, .slice b2 l2.length d2] 28)) b1 l1.length (fun i => l1[i]?.getD ⟨⟨#[]⟩, 0⟩)) := hR'.later hW0
  have HWA : Hid (Wrs ((w.alloc (.cells #[.int .i64 i1, .int .u64 i2, .bool plain, .slice a1 l1.length c1, .slice a2 l2.length c2] 28)).alloc (.cells #[.int .i64 i1, .int .u64 i2, .bool plain, .slice b1 l1.length d1, .slice b2 l2.length d2] 28)) a2 l2.length (fun i => l2[i]?.getD ⟨⟨#[]⟩, ⟨#[]⟩, false⟩)) := hW.later hW0
  have HWB : Hid (Wrs ((w.alloc (.cells #[.int .i64 i1, .int .u64 i2, .bool plain, .slice a1 l1.length c1, .slice a2 l2.length c2] 28)).alloc (.cells #[.int .i64 i1, .int .u64 i2, .bool plain, .slice b1 l1.length d1, .slice b2 l2.length d2] 28)) b2 l2.length (fun i => l2[i]?.getD ⟨⟨#[]⟩, ⟨#[]⟩, false⟩)) := hW'.later hW0
  clear hR hR' hW hW'
  generalize hW : ((w.alloc (.cells #[.int .i64 i1, .int .u64 i2, .bool plain, .slice a1 l1.length c1, .slice a2 l2.length c2] 28)).alloc (.cells #[.int .i64 i1, .int .u64 i2, .bool plain, .slice b1 l1.length d1, .slice b2 l2.length d2] 28)) = w0 at *
  have HB0 : Hid (Below w.heap.size w w0) := hW0
  obtain ⟨x0, x1, x2, x3, x4⟩ := five_cells hP0
  obtain ⟨y0, y1, y2, y3, y4⟩ := five_cells hZ0
  clear hW0 hP0 hZ0
  have hlm1 := HRA.out.1
  have hlm2 := HWA.out.1
  unfold maxLen at hlm1 hlm2
  generalize hn1 : l1.length = n1 at *
  have HN1 : Hid (l1.length = n1) := hn1
  clear hn1
  generalize hn2 : l2.length = n2 at *
  have HN2 : Hid (l2.length = n2) := hn2
  clear hn2
  have t1 : ∀ w, (binOp .neq 24 (.agg #[.int .i64 i1, .int .u64 i2]) (.agg #[.int .i64 i1, .int .u64 i2])).run Tryd.prog w = .ok (.bool false) w := fun w => by have := neq_24 (i1, i2) (i1, i2) w; simpa using this
  have t2 : (plain != plain) = false := by simp
  have t3 : ((n1 : Int) != (n1 : Int)) = false := by simp
  have t4 : ((n2 : Int) != (n2 : Int)) = false := by simp
  go_enter Tryd.func21, Tryd.ntmps21
  go_wp2
  clear hW t1 t2 t3 t4
  go_loopw [40] (fun i wr => ∃ k : Nat, k ≤ n1 ∧ i = .int .i64 (k : Nat) ∧ Hid (∃ q, wr = w0.drewN q)) (fun i _ => n1 - (intOf i).toNat)
  case atStart => exact ⟨0, Nat.zero_le _, rfl, 0, rfl⟩
  case round =>
    obtain ⟨k, hk, rfl, HQ⟩ := hrel
    obtain ⟨q, rfl⟩ := HQ.out
    by_cases hlt : k < n1
    · obtain ⟨ba, oa, rfl, hca⟩ := HRA.out.at (by omega)
      obtain ⟨bb, ob, rfl, hcb⟩ := HRB.out.at (by omega)
      obtain ⟨q0, q1⟩ := hca k hlt
      obtain ⟨r0, r1⟩ := hcb k hlt
      clear hca hcb
      generalize l1[k]?.getD ⟨⟨#[]⟩, 0⟩ = m at q0 q1 r0 r1
      obtain ⟨mx, mf⟩ := m
      simp only at q0 q1 r0 r1
      have hne := neq_66 ⟨mx, mf⟩
      simp only at hne
      have hk0 : (0 : Int) ≤ (k : Int) := by omega
      go_upto_region 6 with fail
      go_quiet (fail)
      go_wp2
      go_roundw
      case rel => exact ⟨k + 1, by omega, by go_num, _, rfl⟩
      case measure => simp [intOf]; omega
    · go_wp2
      generalize hq9 : w0.drewN q = w9
      have HQ9 : Hid (w0.drewN q = w9) := hq9
      clear hq9
      go_loopw [58] (fun i wr => ∃ k : Nat, k ≤ n2 ∧ i = .int .i64 (k : Nat) ∧ Hid (∃ q, wr = w0.drewN q)) (fun i _ => n2 - (intOf i).toNat)
      case atStart => exact ⟨0, Nat.zero_le _, rfl, q, HQ9.out.symm⟩
      case round =>
        obtain ⟨j, hj, rfl, HQ2⟩ := hrel
        obtain ⟨q2, rfl⟩ := HQ2.out
        by_cases hlt2 : j < n2
        · obtain ⟨ba, oa, rfl, hca⟩ := HWA.out.at (by omega)
          obtain ⟨bb, ob, rfl, hcb⟩ := HWB.out.at (by omega)
          obtain ⟨q0, q1, q2'⟩ := hca j hlt2
          obtain ⟨r0, r1, r2⟩ := hcb j hlt2
          clear hca hcb
          generalize l2[j]?.getD ⟨⟨#[]⟩, ⟨#[]⟩, false⟩ = m at q0 q1 q2' r0 r1 r2
          obtain ⟨mx, mv, mf⟩ := m
          simp only at q0 q1 q2' r0 r1 r2
          have hne := neq_69 ⟨mx, mv, mf⟩
          simp only at hne
          have hk0 : (0 : Int) ≤ (j : Int) := by omega
          go_upto_region 12 with fail
          go_quiet (fail)
          go_wp2
          go_roundw
          case rel => exact ⟨j + 1, by omega, by go_num, _, rfl⟩
          case measure => simp [intOf]; omega
        · go_wp2
          go_ret
          exact ⟨rfl, below_drewN HB0.out q2⟩
end Go.Proofs.YteokhedljfakkaaDoor
