/- What the functions of package crc, and of the law's own answers for it, do: contracts, fourth part. -/
import Derived.Test.YtmlpneiadkngaaaDoorCrcC
namespace Go.Proofs.YtmlpneiadkngaaaDoor
open Go.RowKit

theorem seal_any (a : Option Addr) (n cap : Nat) (bs : List Nat) (w : World) (hr : Row w a n bs) (hz : a = none → cap = 0) (hn : n ≤ 140737488351232) :
    Calls Tryd.prog 47 #[.slice a n cap] w fun e w' => ∃ v, e = .returned v ∧ Own w' w.heap.size v (bs ++ Crc.four (Crc.of bs)) ∧ Below w.heap.size w w' := by
  have hS := Crc.of_lt bs hr.2.1
  have hlen := hr.1
  go_enter Tryd.func47, Tryd.ntmps47
  go_wp2_with (first
    | (at_make; refine wp_make_row rfl _ _ rfl w.heap.size _ _ _ (n + 4) rfl rfl (by omega) (by omega) (Nat.le_refl _) ?_; intro w1 ho1 hb1)
    | (at_builtin; refine wp_append_row rfl _ _ rfl w.heap.size _ _ rfl ho1 _ _ _ _ rfl (hr.later hb1) hz (by simp; omega) hb1.size ?_; intro v2 w2 ho2 hb2)
    | (go_at_call 65; refine (of_any _ _ _ _ _ (hr.later (hb1.trans hb2))).mono ?_; rintro e w' ⟨rfl, hw⟩; subst w'))
  have hb0 := hb1.trans hb2
  rw [List.nil_append] at ho2
  clear ho1 hb1 hb2
  have hl2 : bs.length ≤ 140737488351232 := by omega
  go_loopw [3, 4, 13] (fun v t i wr => ∃ k q : Nat, k ≤ 4 ∧ i = .int .i64 k ∧ t = .int .u32 (q : Nat) ∧ Hid (q = Crc.of bs / 256 ^ k) ∧ Own wr w.heap.size v (bs ++ Crc.lows (Crc.of bs) k) ∧ Below w.heap.size w wr) (fun _ _ i _ => 4 - (intOf i).toNat)
  case atStart => exact ⟨0, _, Nat.zero_le _, rfl, rfl, by simp [Hid], by simpa [Crc.lows] using ho2, hb0⟩
  case round =>
    clear ho2 hb0
    obtain ⟨k, q, hk, rfl, rfl, HQ, ho, hb⟩ := hrel
    by_cases hlt : k < 4
    · have hq : q < 4294967296 := by rw [HQ.out]; exact Nat.lt_of_le_of_lt (Nat.div_le_self _ _) hS
      have hrow := Row.one wr (q % 256) (by omega)
      have hsz := hb.size
      have hlen : (bs ++ Crc.lows (Crc.of bs) k).length = bs.length + k := by rw [List.length_append, Crc.lows_length]
      have HL : Hid (_ = _) := hlen
      clear hlen
      go_wp2_with (at_builtin; refine wp_append_row rfl _ _ rfl w.heap.size _ _ rfl (ho.alloc _) _ _ _ _ rfl hrow (by simp) (by rw [HL.out]; omega) (by simp; omega) ?_; intro v2 w2 ho2 hb2)
      have ho3 : Own w2 w.heap.size v2 (bs ++ Crc.lows (Crc.of bs) (k + 1)) := by
        rw [List.append_assoc, HQ.out] at ho2
        exact ho2
      go_roundw
      case rel => exact ⟨k + 1, q / 256, by omega, by go_num, by go_num, Crc.next_div _ _ _ HQ.out, ho3, (hb.alloc hsz _).trans hb2⟩
      case measure => simp [intOf]; omega
    · go_wp2
      go_ret
      have : k = 4 := by omega
      subst this
      rw [Crc.lows_four] at ho
      exact ⟨_, rfl, ho, hb⟩
end Go.Proofs.YtmlpneiadkngaaaDoor
