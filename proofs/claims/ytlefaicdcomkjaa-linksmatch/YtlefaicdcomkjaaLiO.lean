/- The document's SameTxn, Same of flat entries. -/
import Derived.Test.YtlefaicdcomkjaaLiL
namespace Go.Proofs.Ytlefaicdcomkjaa
open Go Go.RowKit
set_option linter.unusedVariables false
set_option linter.unusedSimpArgs false

set_option maxRecDepth 100000 in
set_option maxHeartbeats 4000000 in
theorem rsame_flat (a1 b1 : Option Addr) (c1 d1 : Nat) (a2 b2 : Option Addr) (c2 d2 : Nat) (w : World) :
    Calls Try.prog 37 #[.agg #[.int .i64 0, .int .u64 0, .bool false, .slice a1 0 c1, .slice a2 0 c2], .agg #[.int .i64 0, .int .u64 0, .bool false, .slice b1 0 d1, .slice b2 0 d2]] w fun e w' => e = .returned (.bool true) ∧ Below w.heap.size w w' := by
  have t1 : ∀ w, (binOp .neq 38 (.agg #[.int .i64 0, .int .u64 0]) (.agg #[.int .i64 0, .int .u64 0])).run Try.prog w = .ok (.bool false) w := fun w => by have := neq_38 (0, 0) (0, 0) w; simpa using this
  go_enter Try.func37, Try.ntmps37
  go_wp2
  clear t1
  refine wp_loop_rounds 1 ?_
  rw [rounds_succ]
  go_wp2
  refine wp_loop_rounds 1 ?_
  rw [rounds_succ]
  go_wp2
  go_ret
  exact ⟨rfl, by go_grown⟩
set_option maxRecDepth 100000 in
set_option maxHeartbeats 4000000 in
theorem dsame_flat (ep s : Int) (a1 b1 : Option Addr) (c1 d1 : Nat) (a2 b2 : Option Addr) (c2 d2 : Nat) (w : World) :
    Calls Try.prog 17 #[.agg #[.int .u64 ep, .int .i64 2, .int .i64 0, .int .u64 0, .bool false, .slice a1 0 c1, .slice a2 0 c2, .int .i64 0, .int .u64 s, .int .i64 0], .agg #[.int .u64 ep, .int .i64 2, .int .i64 0, .int .u64 0, .bool false, .slice b1 0 d1, .slice b2 0 d2, .int .i64 0, .int .u64 s, .int .i64 0]] w fun e w' => e = .returned (.bool true) ∧ Below w.heap.size w w' := by
  have t1 : ∀ w, (binOp .eql 38 (.agg #[.int .i64 0, .int .u64 s]) (.agg #[.int .i64 0, .int .u64 s])).run Try.prog w = .ok (.bool true) w := fun w => by have := eql_38 (0, s) (0, s) w; simpa using this
  have t2 : (ep == ep) = true := by simp
  have hq := fun w => rsame_flat a1 b1 c1 d1 a2 b2 c2 d2 w
  go_enter Try.func17, Try.ntmps17
  go_wp2_with (first | (go_at_call 37; refine (hq _).mono ?_; rintro e w2 ⟨rfl, hb⟩; have HB : Hid (Below _ _ w2) := hb; clear hb hq) | fail)
  go_ret
  refine ⟨rfl, ?_⟩
  exact ((((Below.refl _ _).alloc (Nat.le_refl _) _).alloc (by simp) _).trans (HB.out.mono (by simp; omega)))
end Go.Proofs.Ytlefaicdcomkjaa
