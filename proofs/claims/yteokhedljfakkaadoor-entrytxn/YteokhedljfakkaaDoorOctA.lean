/- What the writing functions of package octet do: contracts. -/
import Derived.Test.YteokhedljfakkaaDoorBase
import Derived.Test.YteokhedljfakkaaDoorOctMath
namespace Go.Proofs.YteokhedljfakkaaDoor
open Go.RowKit

theorem copy_any (a : Option Addr) (n cap room : Nat) (bs : List Nat) (w : World) (hr : Row w a n bs) (hz : a = none → cap = 0) (hn : n ≤ 1000000) (hm : room ≤ 1000000) :
    Calls Tryd.prog 40 #[.slice a n cap, .int .i64 room] w fun e w' => ∃ v, e = .returned v ∧ Own w' w.heap.size v bs ∧ Below w.heap.size w w' := by
  go_enter Tryd.func40, Tryd.ntmps40
  go_wp2_with (first
    | (at_make; refine wp_make_row rfl _ _ rfl w.heap.size _ _ _ (n + room) rfl rfl (by omega) (by omega) (Nat.le_refl _) ?_; intro w1 ho1 hb1)
    | (at_builtin; refine wp_append_row rfl _ _ rfl w.heap.size _ _ rfl ho1 _ _ _ _ rfl (hr.later hb1) hz (by simp; omega) hb1.size ?_; intro v2 w2 ho2 hb2))
  go_ret
  rw [List.nil_append] at ho2
  exact ⟨_, rfl, ho2, hb1.trans hb2⟩

set_option maxRecDepth 100000 in
theorem putNumber_any (v : Value) (bs : List Nat) (m : Nat) (w : World) (base : Nat) (ho : Own w base v bs) (hB : base ≤ w.heap.size) (hn : bs.length ≤ 1000000) (hm : m < 18446744073709551616) :
    Calls Tryd.prog 91 #[v, .int .u64 m] w fun e w' => ∃ v', e = .returned v' ∧ Own w' base v' (bs ++ Oct.put m) ∧ Below base w w' := by
  go_enter Tryd.func91, Tryd.ntmps91
  go_wp2
  go_loopw [0, 1] (fun v t wr => ∃ (f q : Nat) (pre : List Nat), t = .int .u64 (q : Nat) ∧ f ≤ 9 ∧ Hid (q < 2 ^ (7 * f + 1)) ∧ Hid (Oct.put m = pre ++ Oct.putF f q) ∧ Own wr base v (bs ++ pre) ∧ Below base w wr) (fun _ t _ => (intOf t).toNat)
  case atStart => exact ⟨9, m, [], rfl, by omega, by simpa [Hid] using hm, rfl, by simpa using ho, Below.refl _ _⟩
  case round =>
    clear ho
    obtain ⟨f, q, pre, rfl, hf, HQ, HP, ho, hb⟩ := hrel
    have hsz := hb.size
    have hlen : (bs ++ pre).length ≤ 1000020 := by
      have h1 := congrArg List.length HP.out
      have h2 := Oct.putF_len 9 m
      rw [List.length_append] at h1 ⊢
      unfold Oct.put at h1
      omega
    have HL : Hid ((bs ++ pre).length ≤ 1000020) := hlen
    clear hlen
    have hq64 : q < 18446744073709551616 := Nat.lt_of_lt_of_le HQ.out (Nat.le_trans (Nat.pow_le_pow_right (by omega) (show 7 * f + 1 ≤ 64 by omega)) (by omega))
    by_cases h : q < 128
    · have hrow := Row.one wr q (by omega)
      have hq2 : (q : Int) % 256 = (q : Int) := by omega
      go_wp2_with (at_builtin; refine wp_append_row rfl _ _ rfl base _ _ rfl (ho.alloc _) _ _ _ _ rfl hrow (by simp) (by have := HL.out; omega) (by simp; omega) ?_; intro v2 w2 ho2 hb2)
      go_ret
      refine ⟨_, rfl, ?_, (hb.alloc (by omega) _).trans hb2⟩
      rw [HP.out, Oct.putF_small f q h, ← List.append_assoc]
      exact ho2
    · obtain ⟨f', rfl⟩ : ∃ f', f = f' + 1 := by
        cases f with
        | zero => have hq := HQ.out; simp at hq; omega
        | succ f => exact ⟨f, rfl⟩
      have hrow := Row.one wr (q % 128 + 128) (by omega)
      have hor := Oct.or_128 q
      go_wp2_with (at_builtin; refine wp_append_row rfl _ _ rfl base _ _ rfl (ho.alloc _) _ _ _ _ rfl hrow (by simp) (by have := HL.out; omega) (by simp; omega) ?_; intro v2 w2 ho2 hb2)
      have ho3 : Own w2 base v2 (bs ++ (pre ++ [q % 128 + 128])) := by rw [← List.append_assoc]; exact ho2
      go_roundw
      case rel => exact ⟨f', q / 128, pre ++ [q % 128 + 128], by go_num, by omega, Oct.next_lt f' q HQ.out, by unfold Hid; rw [HP.out, Oct.putF_big _ _ (by omega)]; simp, ho3, (hb.alloc (by omega) _).trans hb2⟩
      case measure => simp [intOf]; omega
end Go.Proofs.YteokhedljfakkaaDoor
