/- Flat entries; the chapter's example; a log that is not there. -/
import Derived.Test.YtlefaicdcomkjaaLiE
namespace Go.Proofs.Ytlefaicdcomkjaa
open Go Go.RowKit
set_option linter.unusedVariables false
set_option linter.unusedSimpArgs false

/-- an entry that ends something, without lists -/
def flatE (a : En) : Ev := ⟨a.1, 2, (0, 0), false, .slice none 0 0, .slice none 0 0, (0, a.2), 0, [], []⟩
def flatL (A : Lo) : List Ev := A.map flatE
theorem loL_flat (A : Lo) : loL (flatL A) = A := by
  unfold loL flatL
  rw [List.map_map]
  exact List.map_id _
theorem flatL_length (A : Lo) : (flatL A).length = A.length := by simp [flatL]
theorem flat_mem (a : En) (w : World) : (flatE a).mem w := ⟨World.ownsRow_nil _ _ _ _, World.ownsRow_nil _ _ _ _, ⟨by simp [flatE], by simp [flatE], by simp [flatE]⟩, by simp [flatE], by simp [flatE]⟩
theorem flat_right (a : En) (h1 : 1 ≤ a.1) (h2 : 1 ≤ a.2) : rB (flatE a) = true := by
  have e1 : decide (a.1 = 0) = false := by simp; omega
  have e2 : decide (0 < a.2) = true := by simp; omega
  show (!decide (a.1 = 0) && (decide ((2 : Int) = 1) && _ || decide ((2 : Int) = 2) && (noTxn (0, 0) false 0 0 && (decide ((0 : Int) ≤ 0) && decide ((0 : Int) < 6) && decide (0 < a.2)) && rcode 0))) = true
  rw [e1, e2]
  rfl
abbrev flatv (ep s : Int) : Value := .agg #[.int .u64 ep, .int .i64 2, .int .i64 0, .int .u64 0, .bool false, .slice none 0 0, .slice none 0 0, .int .i64 0, .int .u64 s, .int .i64 0]
theorem addF_any (g : Nat) (ob : Option Nat) (A : Lo) (ep s last : Int) (w : World) (h : Lg w g ob (flatL A)) (hl : A.length < 400) (h1 : 1 ≤ ep) (h2 : 1 ≤ s) (hlast : epoL A A.length = last) (hs : last ≤ ep) :
    Calls Try.prog 26 #[.pointer (some ⟨g, 0, none⟩), flatv ep s] w fun e w' => e = .returned (.int .i64 0) ∧ ∃ ob', Lg w' g ob' (flatL (A ++ [(ep, s)])) ∧ Kp w w' g ob ∧ (ob' = ob ∨ ∃ k, ob' = some k ∧ w.heap.size ≤ k) := by
  have hm := flat_mem (ep, s) w
  have hr := flat_right (ep, s) h1 h2
  have hep : epL (flatL A) ((flatL A).length : Nat) = last := by rw [epL, loL_flat, flatL_length]; exact hlast
  refine (add_new g ob (flatL A) ep 2 0 0 false none 0 0 none 0 0 0 s 0 [] [] w last h hm rfl rfl (by rw [flatL_length]; omega) hr hep (by omega) (by rw [flatL_length]; exact hl)).mono ?_
  rintro e w' ⟨rfl, x1, y1, x2, y2, ob', hl', hk, hob, hn1, hn2⟩
  have e1 := hn1 rfl
  have e2 := hn2 rfl
  refine ⟨rfl, ob', ?_, hk, hob⟩
  have : flatL (A ++ [(ep, s)]) = flatL A ++ [⟨ep, 2, (0, 0), false, .slice x1 0 y1, .slice x2 0 y2, (0, s), 0, [], []⟩] := by
    rw [flatL, List.map_append]
    have e3 : (Value.slice x1 0 y1) = .slice none 0 0 := e1
    have e4 : (Value.slice x2 0 y2) = .slice none 0 0 := e2
    rw [e3, e4]
    rfl
  rw [this]
  exact hl'
set_option maxRecDepth 100000 in
theorem one_any (ep : Int) (w : World) : Calls Try.prog 21 #[.int .u64 ep] w fun e w' => e = .returned (flatv ep 1) ∧ Below w.heap.size w w' := by
  go_enter Try.func21, Try.ntmps21
  go_wp2
  refine bodyPost_ret (v := flatv ep 1) (by simp [results, Try.results21, go_sem]) rfl ?_
  refine ⟨rfl, ?_⟩
  go_grown
theorem add_nil (ep s : Int) (w : World) : Calls Try.prog 26 #[.pointer none, flatv ep s] w fun e w' => e = .returned (.int .i64 2) ∧ Below w.heap.size w w' := by
  go_enter Try.func26, Try.ntmps26
  go_wp2
  go_ret
  exact ⟨rfl, by go_grown⟩
theorem cut_nil (n : Int) (w : World) : Calls Try.prog 30 #[.pointer none, .int .i64 n] w fun e w' => e = .returned (.int .i64 2) ∧ w' = w := by
  go_enter Try.func30, Try.ntmps30
  go_wp2
  go_ret
  exact ⟨rfl, rfl⟩
theorem told_nil (w : World) : Calls Try.prog 33 #[.pointer none, .int .i64 0, .int .i64 0] w fun e w' => e = .returned (.slice none 0 0) ∧ Below w.heap.size w w' := by
  have h1 := cloneE_any none 0 0 [] w ⟨fun _ => rfl, fun ad e => by cases e⟩ rfl (by simp) (by simp)
  go_enter Try.func33, Try.ntmps33
  go_wp2_with (first | (go_at_call 41; refine (all_nil w).mono ?_; rintro e w' ⟨rfl, rfl⟩) | (go_at_call 45; refine h1.mono ?_; rintro e w2 ⟨⟨u, rfl, -, hu⟩, hb⟩; obtain rfl := hu (by first | trivial | rfl); have HB : Hid (Below w'.heap.size w' w2) := hb; clear hb hu) | fail)
  refine wp_loop_rounds 1 ?_
  rw [rounds_succ]
  go_wp2
  go_ret
  exact ⟨rfl, HB.out⟩
theorem all_of_nil (w : World) : Calls Try.prog 11 #[.pointer none] w fun e w' => e = .returned (.slice none 0 0) ∧ Below w.heap.size w w' := by
  have h1 := told_nil w
  go_enter Try.func11, Try.ntmps11
  go_wp2_with (first | (go_at_call 27; refine (len_nil w).mono ?_; rintro e wz ⟨rfl, hwz⟩; subst wz) | (go_at_call 33; refine h1.mono ?_; rintro e w2 ⟨rfl, hb⟩; have HB : Hid (Below w.heap.size w w2) := hb; clear hb) | fail)
  go_ret
  exact ⟨rfl, HB.out⟩
theorem from_nil (i : Int) (w : World) : Calls Try.prog 12 #[.pointer none, .int .i64 i, .int .i64 3] w fun e w' => e = .returned (.slice none 0 0) ∧ Below w.heap.size w w' := by
  have h0 := reach_nil i w
  by_cases hi : i = 0
  · subst hi
    have hb : reachB 0 0 = true := by decide
    rw [hb] at h0
    have h1 := told_nil w
    go_enter Try.func12, Try.ntmps12
    go_wp2_with (first | (go_at_call 34; refine h0.mono ?_; rintro e wz ⟨rfl, hwz⟩; subst wz) | (go_at_call 27; refine (len_nil w).mono ?_; rintro e wz ⟨rfl, hwz⟩; subst wz) | (go_at_call 33; refine h1.mono ?_; rintro e w2 ⟨rfl, hb⟩; have HB : Hid (Below w.heap.size w w2) := hb; clear hb) | fail)
    go_ret
    exact ⟨rfl, HB.out⟩
  · have hb : reachB 0 i = false := by
      cases h : reachB 0 i with
      | false => rfl
      | true => have := (reachB_iff _ _).1 h; omega
    rw [hb] at h0
    go_enter Try.func12, Try.ntmps12
    go_wp2_with (first | (go_at_call 34; refine h0.mono ?_; rintro e wz ⟨rfl, hwz⟩; subst wz) | fail)
    go_ret
    exact ⟨rfl, Below.refl _ _⟩
set_option maxRecDepth 100000 in
theorem same_nil (i : Int) (w : World) : Calls Try.prog 23 #[.pointer none, .int .i64 i, .slice none 0 0] w fun e w' => e = .returned (.int .i64 0) ∧ ∃ n, w' = w.drewN n := by
  have h0 := reach_nil i w
  cases hr : reachB 0 i with
  | false =>
    rw [hr] at h0
    go_enter Try.func23, Try.ntmps23
    go_wp2_with (first | (go_at_call 34; refine h0.mono ?_; rintro e wz ⟨rfl, hwz⟩; subst wz) | fail)
    go_ret
    exact ⟨rfl, 0, rfl⟩
  | true =>
    rw [hr] at h0
    go_enter Try.func23, Try.ntmps23
    go_wp2_with (first | (go_at_call 34; refine h0.mono ?_; rintro e wz ⟨rfl, hwz⟩; subst wz) | fail)
    refine wp_loop_rounds 1 ?_
    rw [rounds_succ]
    go_upto_region 4 with fail
    go_quiet (fail)
    go_wp2
    go_ret
    exact ⟨rfl, _, rfl⟩
abbrev flatv0 : Value := .agg #[.int .u64 0, .int .i64 0, .int .i64 0, .int .u64 0, .bool false, .slice none 0 0, .slice none 0 0, .int .i64 0, .int .u64 0, .int .i64 0]
set_option maxRecDepth 100000 in
theorem at_nil (i : Int) (w : World) : Calls Try.prog 16 #[.pointer none, .int .i64 i] w fun e w' => e = .returned (.tuple #[flatv0, .bool false]) ∧ Below w.heap.size w w' := by
  have h0 := has_nil i (w.alloc (.cells #[.int .u64 0, .int .i64 0, .int .i64 0, .int .u64 0, .bool false, .slice none 0 0, .slice none 0 0, .int .i64 0, .int .u64 0, .int .i64 0] 45))
  rw [hasB_zero] at h0
  go_enter Try.func16, Try.ntmps16
  go_wp2_with (first | (go_at_call 35; refine h0.mono ?_; rintro e wz ⟨rfl, hwz⟩; subst wz) | fail)
  refine bodyPost_ret (v := .tuple #[flatv0, .bool false]) (by simp [results, Try.results16, go_sem]) rfl ?_
  refine ⟨rfl, ?_⟩
  go_grown
end Go.Proofs.Ytlefaicdcomkjaa
