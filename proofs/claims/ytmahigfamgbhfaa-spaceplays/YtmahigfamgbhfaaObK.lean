/- The document's own answers: without later versions, the version at a number, without elder ones; rows between the program's and the document's. -/
import Derived.Test.YtmahigfamgbhfaaObE
namespace Go.Proofs.Ytmahigfamgbhfaa
open Go.RowKit
set_option linter.unusedVariables false

theorem take_snoc (l : List Ver) (k : Nat) (h : k < l.length) : l.take (k + 1) = l.take k ++ [nth l k] := by
  rw [nth_lt l k h, List.take_succ_eq_append_getElem h]
theorem filter_snoc (p : Ver → Bool) (l : List Ver) (k : Nat) (h : k < l.length) : (l.take (k + 1)).filter p = if p (nth l k) = true then (l.take k).filter p ++ [nth l k] else (l.take k).filter p := by
  rw [take_snoc l k h, List.filter_append]
  by_cases hp : p (nth l k) = true <;> simp [hp]
theorem filter_short (p : Ver → Bool) (l : List Ver) (k : Nat) : ((l.take k).filter p).length ≤ l.length := by
  have := List.length_filter_le p (l.take k)
  have := List.length_take_le k l
  simp at *
  omega


set_option maxRecDepth 100000 in
set_option maxHeartbeats 2000000 in
theorem ref_undo_any (a : Option Addr) (n cap : Nat) (m : Int) (l : List Ver) (w : World) (hr : VRow w a n l) (hlen : n ≤ 1000000) :
    Calls Try.prog 26 #[.slice a n cap, .int .i64 m] w fun e w' => ∃ v, e = .returned v ∧ VOwn w' w.heap.size 43 v (l.filter fun x => decide (x.pos ≤ m)) ∧ Below w.heap.size w w' := by
  have HR : Hid (VRow w a n l) := hr
  clear hr
  go_enter Try.func26, Try.ntmps26
  go_wp2
  go_loopw [5, 10] (fun s5 s10 wr => ∃ (k : Nat) (v : Value), v = s5 ∧ s10 = .int .i64 (k : Nat) ∧ k ≤ n ∧ Hid (VOwn wr w.heap.size 43 v ((l.take k).filter fun x => decide (x.pos ≤ m))) ∧ Hid (Below w.heap.size w wr)) (fun _ s10 _ => n - (intOf s10).toNat)
  case atStart => exact ⟨0, _, rfl, rfl, by omega, VOwn.nil _ _ _, Below.refl _ _⟩
  case round =>
    obtain ⟨k, v, rfl, rfl, hk, HO, HB⟩ := hrel
    by_cases hlt : k < n
    · obtain ⟨b, off, rfl, hc⟩ := (HR.out.later HB.out).at (by omega)
      obtain ⟨c0, c1, c2, c3⟩ := hc k hlt
      clear hc
      have HX : Hid (Below w.heap.size w (wr.alloc (.cells #[.int .i64 (nth l k).pos, .int .u64 ((nth l k).num : Nat), .string (nth l k).val, .bool (nth l k).gone] 43))) := HB.out.alloc HB.out.size _
      have HF := filter_snoc (fun x => decide (x.pos ≤ m)) l k (by rw [HR.out.1]; exact hlt)
      have hok := HR.out.okn k
      have hshort := filter_short (fun x => decide (x.pos ≤ m)) l k
      rw [HR.out.1] at hshort
      by_cases hp : (nth l k).pos ≤ m
      · rw [if_pos (by simpa using hp)] at HF
        have HF2 : Hid ((l.take (k + 1)).filter (fun x => decide (x.pos ≤ m)) = (l.take k).filter (fun x => decide (x.pos ≤ m)) ++ [nth l k]) := HF
        clear HF
        generalize nth l k = u at *
        have HO2 : Hid (VOwn ((wr.alloc (.cells #[.int .i64 (u).pos, .int .u64 ((u).num : Nat), .string (u).val, .bool (u).gone] 43)).alloc (.cells #[.int .i64 (u).pos, .int .u64 ((u).num : Nat), .string (u).val, .bool (u).gone] 43)) w.heap.size 43 v ((l.take k).filter fun x => decide (x.pos ≤ m))) := HO.out.later (((Below.refl _ _).alloc (Nat.le_refl _) _).alloc (by simp) _)
        have HX2 : Hid (Below w.heap.size w ((wr.alloc (.cells #[.int .i64 (u).pos, .int .u64 ((u).num : Nat), .string (u).val, .bool (u).gone] 43)).alloc (.cells #[.int .i64 (u).pos, .int .u64 ((u).num : Nat), .string (u).val, .bool (u).gone] 43))) := HX.out.alloc HX.out.size _
        have hg : ((wr.alloc (.cells #[.int .i64 (u).pos, .int .u64 ((u).num : Nat), .string (u).val, .bool (u).gone] 43)).alloc (.cells #[.int .i64 (u).pos, .int .u64 ((u).num : Nat), .string (u).val, .bool (u).gone] 43)).heap[wr.heap.size + 1]? = some (.cells #[.int .i64 (u).pos, .int .u64 ((u).num : Nat), .string (u).val, .bool (u).gone] 43) := by
          have := heap_alloc_new (wr.alloc (.cells #[.int .i64 (u).pos, .int .u64 ((u).num : Nat), .string (u).val, .bool (u).gone] 43)) (.cells #[.int .i64 (u).pos, .int .u64 ((u).num : Nat), .string (u).val, .bool (u).gone] 43)
          rwa [World.size_alloc] at this
        go_wp2_with (at_builtin; refine wp_append_ver 22 43 Try.underlying22 Try.info_43 rfl _ _ rfl w.heap.size _ _ rfl HO2.out _ _ u rfl hg hok (by omega) HX2.out.size ?_; intro v2 w2 ho2 hb2 hg2)
        go_roundw
        case rel => exact ⟨k + 1, v2, rfl, by go_num, by omega, by unfold Hid; rw [HF2.out]; exact ho2, HX2.out.trans hb2⟩
        case measure => simp [intOf]; omega
      · rw [if_neg (by simpa using hp)] at HF
        have HF2 : Hid ((l.take (k + 1)).filter (fun x => decide (x.pos ≤ m)) = (l.take k).filter (fun x => decide (x.pos ≤ m))) := HF
        clear HF
        generalize nth l k = u at *
        have HO2 : Hid (VOwn (wr.alloc (.cells #[.int .i64 (u).pos, .int .u64 ((u).num : Nat), .string (u).val, .bool (u).gone] 43)) w.heap.size 43 v ((l.take k).filter fun x => decide (x.pos ≤ m))) := HO.out.later ((Below.refl _ _).alloc (Nat.le_refl _) _)
        go_wp2
        go_roundw
        case rel => exact ⟨k + 1, v, rfl, by go_num, by omega, by unfold Hid; rw [HF2.out]; exact HO2.out, HX.out⟩
        case measure => simp [intOf]; omega
    · have HE : Hid (VOwn wr w.heap.size 43 v (l.filter fun x => decide (x.pos ≤ m))) := by
        have h1 := HO.out
        rw [List.take_of_length_le (by rw [HR.out.1]; omega)] at h1
        exact h1
      go_wp2
      go_ret
      exact ⟨v, rfl, HE.out, HB.out⟩


set_option maxRecDepth 100000 in
set_option maxHeartbeats 2000000 in
theorem plain9_any (u0 : Value) (l : List Ver) (w : World) (h : Ob w u0 l) (hshort : l.length ≤ 1000000) :
    Calls Try.prog 13 #[.agg #[u0]] w fun e w' => ∃ v, e = .returned v ∧ VOwn w' w.heap.size 43 v l ∧ Below w.heap.size w w' := by
  obtain ⟨a, cap, rfl, hr, -⟩ := h
  have HR : Hid (VRow w a l.length l) := hr
  clear hr
  generalize hn : l.length = n at *
  go_enter Try.func13, Try.ntmps13
  go_wp2
  go_loopw [3, 9] (fun s3 s9 wr => ∃ (k : Nat) (v : Value), v = s3 ∧ s9 = .int .i64 (k : Nat) ∧ k ≤ n ∧ Hid (VOwn wr w.heap.size 43 v (l.take k)) ∧ Hid (Below w.heap.size w wr)) (fun _ s9 _ => n - (intOf s9).toNat)
  case atStart => exact ⟨0, _, rfl, rfl, by omega, VOwn.nil _ _ _, (Below.refl _ _).alloc (Nat.le_refl _) _⟩
  case round =>
    obtain ⟨k, v, rfl, rfl, hk, HO, HB⟩ := hrel
    by_cases hlt : k < n
    · obtain ⟨b, off, rfl, hc⟩ := (HR.out.later HB.out).at (by omega)
      obtain ⟨c0, c1, c2, c3⟩ := hc k hlt
      clear hc
      have HX : Hid (Below w.heap.size w (wr.alloc (.cells #[.int .i64 (nth l k).pos, .int .u64 ((nth l k).num : Nat), .string (nth l k).val, .bool (nth l k).gone] 36))) := HB.out.alloc HB.out.size _
      have HF : Hid (l.take (k + 1) = l.take k ++ [nth l k]) := take_snoc l k (by omega)
      have hok := HR.out.okn k
      generalize nth l k = u at *
      have HO2 : Hid (VOwn ((wr.alloc (.cells #[.int .i64 (u).pos, .int .u64 ((u).num : Nat), .string (u).val, .bool (u).gone] 36)).alloc (.cells #[.int .i64 (u).pos, .int .u64 ((u).num : Nat), .string (u).val, .bool (u).gone] 43)) w.heap.size 43 v (l.take k)) := HO.out.later (((Below.refl _ _).alloc (Nat.le_refl _) _).alloc (by simp) _)
      have HX2 : Hid (Below w.heap.size w ((wr.alloc (.cells #[.int .i64 (u).pos, .int .u64 ((u).num : Nat), .string (u).val, .bool (u).gone] 36)).alloc (.cells #[.int .i64 (u).pos, .int .u64 ((u).num : Nat), .string (u).val, .bool (u).gone] 43))) := HX.out.alloc HX.out.size _
      have hg : ((wr.alloc (.cells #[.int .i64 (u).pos, .int .u64 ((u).num : Nat), .string (u).val, .bool (u).gone] 36)).alloc (.cells #[.int .i64 (u).pos, .int .u64 ((u).num : Nat), .string (u).val, .bool (u).gone] 43)).heap[wr.heap.size + 1]? = some (.cells #[.int .i64 (u).pos, .int .u64 ((u).num : Nat), .string (u).val, .bool (u).gone] 43) := by
        have := heap_alloc_new (wr.alloc (.cells #[.int .i64 (u).pos, .int .u64 ((u).num : Nat), .string (u).val, .bool (u).gone] 36)) (.cells #[.int .i64 (u).pos, .int .u64 ((u).num : Nat), .string (u).val, .bool (u).gone] 43)
        rwa [World.size_alloc] at this
      have hsh : (l.take k).length ≤ 1000000000 := by simp; omega
      have HN : Hid (l.length = n) := hn
      clear hn
      go_wp2_with (at_builtin; refine wp_append_ver 22 43 Try.underlying22 Try.info_43 rfl _ _ rfl w.heap.size _ _ rfl HO2.out _ _ u rfl hg hok hsh HX2.out.size ?_; intro v2 w2 ho2 hb2 hg2)
      go_roundw
      case rel => exact ⟨k + 1, v2, rfl, by go_num, by omega, by unfold Hid; rw [HF.out]; exact ho2, HX2.out.trans hb2⟩
      case measure => simp [intOf]; omega
    · have HE : Hid (VOwn wr w.heap.size 43 v l) := by
        have h1 := HO.out
        rw [List.take_of_length_le (by omega)] at h1
        exact h1
      go_wp2
      go_ret
      exact ⟨v, rfl, HE.out, HB.out⟩

end Go.Proofs.Ytmahigfamgbhfaa
